/-
  Copies of rules and of grants.
-/
import Derived.BigFrame
import Derived.Lib.AppendZeros
import Derived.Test.YtkehaeppnmlafaaHPa
import Derived.Test.YtkehaeppnmlafaaBSh
import Derived.Test.YtkehaeppnmlafaaUC
import Derived.Test.YtkehaeppnmlafaaRgMk
namespace Go.Proofs.Ytkehaeppnmlafaa
open Go.RowKit Go.Deep

theorem Try.cinfoN1h : (Try.prog.info? 3).map (fun i => (i.zero, i.size, i.bytes)) = some (some (.int .i64 0), 1, 8) := by kernel_rfl
theorem Try.cunderN1h : Try.prog.underlying 57 = some (.slice 3) := by kernel_rfl
theorem Try.cinfoGateGrant : (Try.prog.info? 61).map (fun i => (i.zero, i.size, i.bytes)) = some (some (.agg #[.int .i64 0, .string ByteArray.empty, .string ByteArray.empty, .slice none 0 0, .string ByteArray.empty, .string ByteArray.empty, .string ByteArray.empty]), 7, 112) := by kernel_rfl
theorem Try.cunderGateGrant : Try.prog.underlying 28 = some (.slice 61) := by kernel_rfl

set_option maxRecDepth 8000 in
set_option maxHeartbeats 8000000 in
theorem l5RuleC (r : Rul) (va : Option Addr) (vc : Nat) (W : World) (hv : Raw W [.row 3 [.i]] [.row r.verbs.length (r.verbs.flatMap eNb)] [.slice va r.verbs.length vc]) (hn : r.verbs.length ≤ 1048576) :
    Calls Try.prog 38 #[.agg #[.slice va r.verbs.length vc, .string r.kind, .string r.team, .string r.pre]] W (Ans shGateRule (eRl r) W) := by
  obtain ⟨wa, hwa⟩ : ∃ wa, wa = (W.alloc (.cells #[.slice va r.verbs.length vc, .string r.kind, .string r.team, .string r.pre] 59)).alloc (.cells #[.slice none 0 0, .string { data := #[] }, .string { data := #[] }, .string { data := #[] }] 59) := ⟨_, rfl⟩
  have HB : Hid (Below W.heap.size W wa) := by show Below _ _ _; rw [hwa]; exact blw_alloc (blw_alloc (Below.refl _ _) _) _
  have HX : Hid (WBox wa W.heap.size 59 [.slice va r.verbs.length vc, .string r.kind, .string r.team, .string r.pre]) := by show WBox _ _ _ _; rw [hwa]; exact (WBox.new W [.slice va r.verbs.length vc, .string r.kind, .string r.team, .string r.pre] _ _ rfl).later (blw_alloc (Below.refl _ _) _)
  have HO : Hid (OwnBlk wa (W.heap.size + 1) 59 4) := by show OwnBlk _ _ _ _; rw [hwa]; exact OwnBlk.alloc_at3 _ _ _ _ _ rfl (by simp)
  have ZA : Hid (wa.heap.size = W.heap.size + 2) := by show _ = _; rw [hwa]; simp
  obtain ⟨wb, hwb⟩ : ∃ wb, wb = wa.alloc (.cells #[] 3) := ⟨_, rfl⟩
  have hbb : Below wa.heap.size wa wb := by rw [hwb]; exact blw_alloc (Below.refl _ _) _
  obtain ⟨v', W1, xs, hrun, hg, hb⟩ := app_copy (P := Try.prog) wa.heap.size 57 57 3 3 1 8 _ Try.cunderN1h Try.cinfoN1h rfl (by decide) (by decide) [.i] rfl (by simp [flatB]) wb (.slice (some ⟨wa.heap.size, 0, none⟩) 0 0) (Or.inr ⟨wa.heap.size, rfl, Nat.le_refl _, by rw [hwb]; exact heap_alloc_new _ _⟩) hbb.size r.verbs.length (r.verbs.flatMap eNb) (.slice va r.verbs.length vc) ((hv.later HB.out).later hbb) (by omega)
  have hb1 : Below wa.heap.size wa W1 := blw_trans hbb hb
  rw [hwb] at hrun
  obtain ⟨wx, wc, hvx⟩ := hg.shape
  subst hvx
  obtain ⟨F, r, nd, fr⟩ := hg.done
  have HR := uh (And.intro r (And.intro nd fr))
  clear r nd fr hg hv
  have hX1 := HX.out.later hb1
  have x0 := hX1.get 0 _ rfl
  have xf := hX1.own.frozen 0
  have xz := hX1.own.lt
  have xa := HX.out.get 0 _ rfl
  have xal := HX.out.own.lt
  obtain ⟨y, hy⟩ : ∃ y, y = W1.setCell ⟨W.heap.size, 0, none⟩ (.slice wx r.verbs.length wc) := ⟨_, rfl⟩
  have HX2 : Hid (WBox y W.heap.size 59 [.slice wx r.verbs.length wc, .string r.kind, .string r.team, .string r.pre]) := by show WBox _ _ _ _; rw [hy]; exact hX1.set 0 _ (by simp)
  have HM : Hid (Marks (fun b => b = W.heap.size) W1 y) := by show Marks _ _ _; rw [hy]; exact Marks.sc (S := fun b => b = W.heap.size) _ rfl _ _
  have HO2 := uh (HM.out.own _ _ _ (HO.out.later hb1))
  have HB2 : Hid (Below W.heap.size W y) := HM.out.below (fun b e => by rw [e]; exact Nat.le_refl _) (blw_trans HB.out hb1)
  have HF : Hid (∀ b ∈ F, W.heap.size + 2 ≤ b) := fun b hb => by have := HR.out.2.2 b hb; have := ZA.out; omega
  go_enter Try.func38, Try.ntmps38
  go_upto_region 1 with fail
  rw [← hwa]
  clear hwa hX1
  go_upto_region 2 with (at_builtin; refine Go.Lib.wpList_append_run _ rfl _ _ 57 57 rfl _ _ rfl rfl _ W1 hrun ?_)
  rw [← hy]
  clear hy x0 xf xz xa xal hrun
  have hxl := HX2.out.own.lt
  have hxa := HX2.out.at_
  have hth : y.there (W.heap.size + 1) 0 (#[.slice wx r.verbs.length wc, .string r.kind, .string r.team, .string r.pre] : Array Value).size := uthere HO2.out _ _ (by simp)
  obtain ⟨we, hwe⟩ : ∃ we, we = y.setCells (W.heap.size + 1) 0 [.slice wx r.verbs.length wc, .string r.kind, .string r.team, .string r.pre] := ⟨_, rfl⟩
  have hrt : we.rangeAt (W.heap.size + 1) 0 [.slice wx r.verbs.length wc, .string r.kind, .string r.team, .string r.pre] := by rw [hwe]; exact World.rangeAt_setCells_same _ _ _ _ hth
  have HMK : Hid (Marks (fun b => b = W.heap.size + 1) y we) := by show Marks _ _ _; rw [hwe]; exact mks_scs (S := fun b => b = W.heap.size + 1) rfl _ _ _
  have HBB : Hid (Below W.heap.size W we) := by show Below _ _ _; rw [hwe]; exact blw_scs (by omega) _ _ _ HB2.out
  go_wp2_with (first | (refine wpList_load_mid rfl 59 _ rfl W.heap.size 0 rfl [.slice wx r.verbs.length wc, .string r.kind, .string r.team, .string r.pre] _ hxa Try.underlying59 rfl (by kernel_rfl) ?_) | (refine wpList_store_mid rfl 59 _ _ rfl (W.heap.size + 1) 0 #[.slice wx r.verbs.length wc, .string r.kind, .string r.team, .string r.pre] rfl rfl hth (by kernel_rfl) (by simp [Value.oneCell']) ?_))
  first | rw [← hwe] | (simp only [List.toList_toArray]; rw [← hwe])
  try simp only [Act.put]
  refine bodyPost_ret (v := .agg #[.slice wx r.verbs.length wc, .string r.kind, .string r.team, .string r.pre]) (by simp [results, Try.results38, asAddr, run_loadVar_mid (P := Try.prog) _ _ _ 59 [.slice wx r.verbs.length wc, .string r.kind, .string r.team, .string r.pre] _ hrt Try.underlying59 rfl (by kernel_rfl)]) rfl ?_
  have M1 := HR.out.1.keep HM.out (fun b hb e => by have := HF.out b hb; omega)
  have M2 := M1.keep HMK.out (fun b hb e => by have := HF.out b hb; omega)
  refine ⟨[.slice wx r.verbs.length wc, .string r.kind, .string r.team, .string r.pre], F ++ [], rfl, repGateRule_mk M2 _ _ _, by rw [List.append_nil]; exact HR.out.2.1, fun b hb => by rw [List.append_nil] at hb; have := HF.out b hb; omega, HBB.out⟩

set_option maxRecDepth 8000 in
set_option maxHeartbeats 8000000 in
theorem copyGrantI (g : Gn) (va : Option Addr) (vc : Nat) (W : World) (hv : Raw W [.row 3 [.i]] [.row g.rul.verbs.length (g.rul.verbs.flatMap eNb)] [.slice va g.rul.verbs.length vc]) (hn : g.rul.verbs.length ≤ 1048576) :
    Calls Try.prog 21 #[.agg #[.int .i64 g.num, .string g.to_, .string g.by_, .slice va g.rul.verbs.length vc, .string g.rul.kind, .string g.rul.team, .string g.rul.pre]] W (Ans shGateGrant (eGn g) W) := by
  obtain ⟨wa, hwa⟩ : ∃ wa, wa = (W.alloc (.cells #[.int .i64 g.num, .string g.to_, .string g.by_, .slice va g.rul.verbs.length vc, .string g.rul.kind, .string g.rul.team, .string g.rul.pre] 61)).alloc (.cells #[.int .i64 0, .string { data := #[] }, .string { data := #[] }, .slice none 0 0, .string { data := #[] }, .string { data := #[] }, .string { data := #[] }] 61) := ⟨_, rfl⟩
  have HB : Hid (Below W.heap.size W wa) := by show Below _ _ _; rw [hwa]; exact blw_alloc (blw_alloc (Below.refl _ _) _) _
  have HX : Hid (WBox wa W.heap.size 61 [.int .i64 g.num, .string g.to_, .string g.by_, .slice va g.rul.verbs.length vc, .string g.rul.kind, .string g.rul.team, .string g.rul.pre]) := by show WBox _ _ _ _; rw [hwa]; exact (WBox.new W [.int .i64 g.num, .string g.to_, .string g.by_, .slice va g.rul.verbs.length vc, .string g.rul.kind, .string g.rul.team, .string g.rul.pre] _ _ rfl).later (blw_alloc (Below.refl _ _) _)
  have HO : Hid (OwnBlk wa (W.heap.size + 1) 61 7) := by show OwnBlk _ _ _ _; rw [hwa]; exact OwnBlk.alloc_at3 _ _ _ _ _ rfl (by simp)
  have ZA : Hid (wa.heap.size = W.heap.size + 2) := by show _ = _; rw [hwa]; simp
  obtain ⟨v', W1, xs, hrun, hg, hb1⟩ := app_copy (P := Try.prog) wa.heap.size 57 57 3 3 1 8 _ Try.cunderN1h Try.cinfoN1h rfl (by decide) (by decide) [.i] rfl (by simp [flatB]) wa (.slice none 0 0) (Or.inl rfl) (Nat.le_refl _) g.rul.verbs.length (g.rul.verbs.flatMap eNb) (.slice va g.rul.verbs.length vc) (hv.later HB.out) (by omega)
  obtain ⟨wx, wc, hvx⟩ := hg.shape
  subst hvx
  obtain ⟨F, r, nd, fr⟩ := hg.done
  have HR := uh (And.intro r (And.intro nd fr))
  clear r nd fr hg hv
  have hX1 := HX.out.later hb1
  have x0 := hX1.get 3 _ rfl
  have xf := hX1.own.frozen 3
  have xz := hX1.own.lt
  have xa := HX.out.get 3 _ rfl
  have xal := HX.out.own.lt
  obtain ⟨y, hy⟩ : ∃ y, y = W1.setCell ⟨W.heap.size, 3, none⟩ (.slice wx g.rul.verbs.length wc) := ⟨_, rfl⟩
  have HX2 : Hid (WBox y W.heap.size 61 [.int .i64 g.num, .string g.to_, .string g.by_, .slice wx g.rul.verbs.length wc, .string g.rul.kind, .string g.rul.team, .string g.rul.pre]) := by show WBox _ _ _ _; rw [hy]; exact hX1.set 3 _ (by simp)
  have HM : Hid (Marks (fun b => b = W.heap.size) W1 y) := by show Marks _ _ _; rw [hy]; exact Marks.sc (S := fun b => b = W.heap.size) _ rfl _ _
  have HO2 := uh (HM.out.own _ _ _ (HO.out.later hb1))
  have HB2 : Hid (Below W.heap.size W y) := HM.out.below (fun b e => by rw [e]; exact Nat.le_refl _) (blw_trans HB.out hb1)
  have HF : Hid (∀ b ∈ F, W.heap.size + 2 ≤ b) := fun b hb => by have := HR.out.2.2 b hb; have := ZA.out; omega
  go_enter Try.func21, Try.ntmps21
  go_upto_region 1 with fail
  rw [← hwa]
  clear hwa hX1
  go_upto_region 2 with (at_builtin; refine Go.Lib.wpList_append_run _ rfl _ _ 57 57 rfl _ _ rfl rfl _ W1 hrun ?_)
  rw [← hy]
  clear hy x0 xf xz xa xal hrun
  have hxl := HX2.out.own.lt
  have hxa := HX2.out.at_
  have hth : y.there (W.heap.size + 1) 0 (#[.int .i64 g.num, .string g.to_, .string g.by_, .slice wx g.rul.verbs.length wc, .string g.rul.kind, .string g.rul.team, .string g.rul.pre] : Array Value).size := uthere HO2.out _ _ (by simp)
  obtain ⟨we, hwe⟩ : ∃ we, we = y.setCells (W.heap.size + 1) 0 [.int .i64 g.num, .string g.to_, .string g.by_, .slice wx g.rul.verbs.length wc, .string g.rul.kind, .string g.rul.team, .string g.rul.pre] := ⟨_, rfl⟩
  have hrt : we.rangeAt (W.heap.size + 1) 0 [.int .i64 g.num, .string g.to_, .string g.by_, .slice wx g.rul.verbs.length wc, .string g.rul.kind, .string g.rul.team, .string g.rul.pre] := by rw [hwe]; exact World.rangeAt_setCells_same _ _ _ _ hth
  have HMK : Hid (Marks (fun b => b = W.heap.size + 1) y we) := by show Marks _ _ _; rw [hwe]; exact mks_scs (S := fun b => b = W.heap.size + 1) rfl _ _ _
  have HBB : Hid (Below W.heap.size W we) := by show Below _ _ _; rw [hwe]; exact blw_scs (by omega) _ _ _ HB2.out
  go_wp2_with (first | (refine wpList_load_mid rfl 61 _ rfl W.heap.size 0 rfl [.int .i64 g.num, .string g.to_, .string g.by_, .slice wx g.rul.verbs.length wc, .string g.rul.kind, .string g.rul.team, .string g.rul.pre] _ hxa Try.underlying61 rfl (by kernel_rfl) ?_) | (refine wpList_store_mid rfl 61 _ _ rfl (W.heap.size + 1) 0 #[.int .i64 g.num, .string g.to_, .string g.by_, .slice wx g.rul.verbs.length wc, .string g.rul.kind, .string g.rul.team, .string g.rul.pre] rfl rfl hth (by kernel_rfl) (by simp [Value.oneCell']) ?_))
  first | rw [← hwe] | (simp only [List.toList_toArray]; rw [← hwe])
  try simp only [Act.put]
  refine bodyPost_ret (v := .agg #[.int .i64 g.num, .string g.to_, .string g.by_, .slice wx g.rul.verbs.length wc, .string g.rul.kind, .string g.rul.team, .string g.rul.pre]) (by simp [results, Try.results21, asAddr, run_loadVar_mid (P := Try.prog) _ _ _ 61 [.int .i64 g.num, .string g.to_, .string g.by_, .slice wx g.rul.verbs.length wc, .string g.rul.kind, .string g.rul.team, .string g.rul.pre] _ hrt Try.underlying61 rfl (by kernel_rfl)]) rfl ?_
  have M1 := HR.out.1.keep HM.out (fun b hb e => by have := HF.out b hb; omega)
  have M2 := M1.keep HMK.out (fun b hb e => by have := HF.out b hb; omega)
  refine ⟨[.int .i64 g.num, .string g.to_, .string g.by_, .slice wx g.rul.verbs.length wc, .string g.rul.kind, .string g.rul.team, .string g.rul.pre], F ++ [], rfl, repGateGrant_mk _ _ _ M2 _ _ _, by rw [List.append_nil]; exact HR.out.2.1, fun b hb => by rw [List.append_nil] at hb; have := HF.out b hb; omega, HBB.out⟩
end Go.Proofs.Ytkehaeppnmlafaa
