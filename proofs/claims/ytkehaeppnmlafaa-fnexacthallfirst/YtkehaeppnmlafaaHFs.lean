/-
  The first books of a house: the copy by the specification.
-/
import Derived.LoopN
import Derived.Test.YtkehaeppnmlafaaHFp
namespace Go.Proofs.Ytkehaeppnmlafaa
open Go.RowKit Go.Deep


theorem Try.cuL : Try.prog.underlying 29 = some (.slice 119) := by kernel_rfl
theorem Try.cuP : Try.prog.underlying 30 = some (.slice 122) := by kernel_rfl
theorem Try.ciL : (Try.prog.info? 119).isSome = true := by kernel_rfl
theorem Try.ciP : (Try.prog.info? 122).isSome = true := by kernel_rfl
set_option maxRecDepth 8000 in
set_option maxHeartbeats 16000000 in
theorem l5CopyG (now tk giv : Int) (l : List Gn) (p : Nat) (W : World) (h : GnsR W p l) :
    Calls Try.prog 16 #[.agg #[.int .i64 now, .int .i64 tk, .int .i64 giv, .slice none 0 0, .slice (some ⟨p, 0, none⟩) l.length l.length, .slice none 0 0, .slice none 0 0]] W (Ans shGateBook [.i now, .i tk, .i giv, .row 0 [], .row l.length (l.flatMap eGn), .row 0 [], .row 0 []] W) := by
  have HH := uh h
  have hl := h.len
  clear h
  obtain ⟨wa, hwa⟩ : ∃ wa, wa = (W.alloc (.cells #[.int .i64 now, .int .i64 tk, .int .i64 giv, .slice none 0 0, .slice (some ⟨p, 0, none⟩) l.length l.length, .slice none 0 0, .slice none 0 0] 32)).alloc (.cells #[.int .i64 0, .int .i64 0, .int .i64 0, .slice none 0 0, .slice none 0 0, .slice none 0 0, .slice none 0 0] 32) := ⟨_, rfl⟩
  have HBa : Hid (Below W.heap.size W wa) := by show Below _ _ _; rw [hwa]; exact blw_alloc (blw_alloc (Below.refl _ _) _) _
  have HXa : Hid (LBox wa W.heap.size [.int .i64 now, .int .i64 tk, .int .i64 giv, .slice none 0 0, .slice (some ⟨p, 0, none⟩) l.length l.length, .slice none 0 0, .slice none 0 0]) := by show LBox _ _ _; rw [hwa]; exact (LBox.new W #[.int .i64 now, .int .i64 tk, .int .i64 giv, .slice none 0 0, .slice (some ⟨p, 0, none⟩) l.length l.length, .slice none 0 0, .slice none 0 0] _ _ rfl).later (blw_alloc (Below.refl _ _) _)
  have HOa : Hid (WBox wa (W.heap.size + 1) 32 [.int .i64 0, .int .i64 0, .int .i64 0, .slice none 0 0, .slice none 0 0, .slice none 0 0, .slice none 0 0]) := by show WBox _ _ _ _; rw [hwa]; exact WBox.new _ [.int .i64 0, .int .i64 0, .int .i64 0, .slice none 0 0, .slice none 0 0, .slice none 0 0, .slice none 0 0] _ _ (by simp)
  have HZa : Hid (wa.heap.size = W.heap.size + 2) := by show _ = _; rw [hwa]; simp
  go_enter Try.func16, Try.ntmps16
  go_upto_region 1 with fail
  rw [← hwa]
  clear hwa
  obtain ⟨y, hy⟩ : ∃ y, y = (wa.alloc (.cells #[.int .i64 0, .int .i64 0, .int .i64 0, .slice none 0 0, .slice none 0 0, .slice none 0 0, .slice none 0 0] 32)).setCells wa.heap.size 0 [.int .i64 now, .int .i64 tk, .int .i64 giv, .slice none 0 0, .slice none 0 0, .slice none 0 0, .slice none 0 0] := ⟨_, rfl⟩
  have hth := nv_there wa #[.int .i64 0, .int .i64 0, .int .i64 0, .slice none 0 0, .slice none 0 0, .slice none 0 0, .slice none 0 0] 32 [.int .i64 now, .int .i64 tk, .int .i64 giv, .slice none 0 0, .slice none 0 0, .slice none 0 0, .slice none 0 0] rfl
  have hby : Below wa.heap.size wa y := by rw [hy]; exact nv_below wa #[.int .i64 0, .int .i64 0, .int .i64 0, .slice none 0 0, .slice none 0 0, .slice none 0 0, .slice none 0 0] 32 [.int .i64 now, .int .i64 tk, .int .i64 giv, .slice none 0 0, .slice none 0 0, .slice none 0 0, .slice none 0 0]
  have HB : Hid (Below W.heap.size W y) := blw_trans HBa.out hby
  have HX := uh (HXa.out.later hby)
  have HO := uh (HOa.out.later hby)
  have HY : Hid (WBox y (W.heap.size + 2) 32 [.int .i64 now, .int .i64 tk, .int .i64 giv, .slice none 0 0, .slice none 0 0, .slice none 0 0, .slice none 0 0]) := by show WBox _ _ _ _; rw [hy, ← HZa.out]; exact ⟨own_scs _ _ _ (OwnBlk.alloc wa _ _ _ rfl), (nv_box wa #[.int .i64 0, .int .i64 0, .int .i64 0, .slice none 0 0, .slice none 0 0, .slice none 0 0, .slice none 0 0] 32 [.int .i64 now, .int .i64 tk, .int .i64 giv, .slice none 0 0, .slice none 0 0, .slice none 0 0, .slice none 0 0] rfl).at_⟩
  have xz := HXa.out.lt
  have x0 := HXa.out.get 0 _ rfl
  have x1 := HXa.out.get 1 _ rfl
  have x2 := HXa.out.get 2 _ rfl
  go_upto_region 2 with (refine wpList_store_mid rfl 32 _ _ rfl wa.heap.size 0 #[.int .i64 now, .int .i64 tk, .int .i64 giv, .slice none 0 0, .slice none 0 0, .slice none 0 0, .slice none 0 0] rfl rfl hth (by kernel_rfl) (by simp [Value.oneCell']) ?_)
  first | rw [← hy] | (simp only [List.toList_toArray]; rw [← hy])
  rw [HZa.out]
  clear hy hth hby xz x0 x1 x2 HBa HXa HOa HZa
  have xz := HX.out.lt
  have x3 := HX.out.get 3 _ rfl
  go_wp2
  refine wp_loop_rounds 1 ?_
  rw [rounds_succ]
  go_wp2
  clear xz x3
  go_loopw [5] (fun i wr => ∃ (q : Nat) (v : Value) (F : List Nat), q ≤ l.length ∧ i = .int .i64 q ∧ WBox wr (W.heap.size + 2) 32 [.int .i64 now, .int .i64 tk, .int .i64 giv, .slice none 0 0, v, .slice none 0 0, .slice none 0 0] ∧ WBox wr (W.heap.size + 1) 32 [.int .i64 0, .int .i64 0, .int .i64 0, .slice none 0 0, .slice none 0 0, .slice none 0 0, .slice none 0 0] ∧ LBox wr W.heap.size [.int .i64 now, .int .i64 tk, .int .i64 giv, .slice none 0 0, .slice (some ⟨p, 0, none⟩) l.length l.length, .slice none 0 0, .slice none 0 0] ∧ Rep wr false [.row 61 shGateGrant] F [.row q ((l.take q).flatMap eGn)] [v] ∧ F.Nodup ∧ (∀ b ∈ F, W.heap.size + 3 ≤ b) ∧ Below W.heap.size W wr) (fun i _ => l.length - (intOf i).toNat)
  case atStart => exact ⟨0, _, [], Nat.zero_le _, rfl, HY.out, HO.out, HX.out, .emp _ _ _ rfl .nil, List.nodup_nil, by simp, HB.out⟩
  case round =>
    obtain ⟨q, v, F, hq, rfl, hY, hO, hX, hR, hN, hF, hB⟩ := hrel
    have HY2 := uh hY
    have HO2 := uh hO
    have HX2 := uh hX
    have HR2 := uh hR
    have HN2 := uh (And.intro hN hF)
    have HB2 := uh hB
    obtain ⟨va, vc, hva⟩ := hR.raw.len0
    subst hva
    clear hY hO hX hR hN hF hB HX HB HO HY
    have xz := HX2.out.lt
    have x4 := HX2.out.get 4 _ rfl
    by_cases hlt : q < l.length
    · have H1 := uh (HH.out.later HB2.out)
      obtain ⟨g, hg⟩ : ∃ g : Gn, g = l.getD q Gn.none := ⟨_, rfl⟩
      obtain ⟨vb, hrg, hvR, hvn⟩ := H1.out.at_ q hlt
      rw [← hg] at hrg hvR hvn
      have hpl := H1.out.lt
      obtain ⟨y, hy⟩ : ∃ y, y = wr.alloc (.cells #[.int .i64 g.num, .string g.to_, .string g.by_, .slice (some ⟨vb, 0, none⟩) g.rul.verbs.length g.rul.verbs.length, .string g.rul.kind, .string g.rul.team, .string g.rul.pre] 61) := ⟨_, rfl⟩
      have hby : Below wr.heap.size wr y := by rw [hy]; exact blw_alloc (Below.refl _ _) _
      have HG : Hid (WBox y wr.heap.size 61 [.int .i64 g.num, .string g.to_, .string g.by_, .slice (some ⟨vb, 0, none⟩) g.rul.verbs.length g.rul.verbs.length, .string g.rul.kind, .string g.rul.team, .string g.rul.pre]) := by show WBox _ _ _ _; rw [hy]; exact WBox.new _ [.int .i64 g.num, .string g.to_, .string g.by_, .slice (some ⟨vb, 0, none⟩) g.rul.verbs.length g.rul.verbs.length, .string g.rul.kind, .string g.rul.team, .string g.rul.pre] _ _ rfl
      have HGG := uh hg
      clear hg
      have hm0 : (0 : Int) ≤ (q : Int) := by omega
      have hm3 : (q : Int) < (l.length : Int) := by omega
      go_upto_region 10 with (refine wpList_load_mid rfl 61 _ rfl p (q * 7) rfl [.int .i64 g.num, .string g.to_, .string g.by_, .slice (some ⟨vb, 0, none⟩) g.rul.verbs.length g.rul.verbs.length, .string g.rul.kind, .string g.rul.team, .string g.rul.pre] _ hrg Try.underlying61 rfl (by kernel_rfl) ?_)
      rw [← hy]
      clear hy xz x4 hrg
      have ZR : Hid (W.heap.size + 2 < wr.heap.size) := HY2.out.own.lt
      obtain ⟨pg, hpg⟩ : ∃ pg, pg = wr.heap.size := ⟨_, rfl⟩
      replace HB2 := uh (blw_trans HB2.out hby)
      replace HY2 := uh (HY2.out.later hby)
      replace HO2 := uh (HO2.out.later hby)
      replace HX2 := uh (HX2.out.later hby)
      have HFl : Hid (∀ b ∈ F, b < pg) := fun b hb => by rw [hpg]; exact HR2.out.lt b hb
      replace HR2 := uh (HR2.out.later hby)
      have HC := uh (l5RuleC g.rul (some ⟨vb, 0, none⟩) g.rul.verbs.length y (hvR.later hby) hvn)
      rw [← hpg] at HG ZR ⊢
      clear hby hpg hvR hvn H1 hpl
      have hgl := HG.out.own.lt
      have hga : y.rangeAt pg 3 [.slice (some ⟨vb, 0, none⟩) g.rul.verbs.length g.rul.verbs.length, .string g.rul.kind, .string g.rul.team, .string g.rul.pre] := (rA_cut (x := [.int .i64 g.num, .string g.to_, .string g.by_]) (y := [.slice (some ⟨vb, 0, none⟩) g.rul.verbs.length g.rul.verbs.length, .string g.rul.kind, .string g.rul.team, .string g.rul.pre]) HG.out.at_).2
      go_wp2_with (refine wpList_load_mid rfl 59 _ rfl pg 3 rfl [.slice (some ⟨vb, 0, none⟩) g.rul.verbs.length g.rul.verbs.length, .string g.rul.kind, .string g.rul.team, .string g.rul.pre] _ hga Try.underlying59 rfl (by kernel_rfl) ?_)
      refine HC.out.mono ?_
      rintro e w1 ⟨cc, FV, rfl, rep, nd, fr, hb⟩
      obtain ⟨v1, a1, m1, hv1, hcc, rG⟩ := grant_rep rep
      subst hv1
      subst hcc
      have HZ1 : Hid (y.heap.size ≤ w1.heap.size ∧ pg < y.heap.size) := ⟨hb.size, HG.out.own.lt⟩
      have HFV : Hid (FV.Nodup ∧ ∀ b ∈ FV, y.heap.size ≤ b ∧ b < w1.heap.size) := ⟨nd, fun b hb => ⟨fr b hb, rep.lt b hb⟩⟩
      replace HG := uh (HG.out.later hb)
      replace HB2 := uh (blw_trans HB2.out hb)
      replace HY2 := uh (HY2.out.later hb)
      replace HO2 := uh (HO2.out.later hb)
      replace HX2 := uh (HX2.out.later hb)
      replace HR2 := uh (HR2.out.later hb)
      have HRG := uh rG
      clear hgl hga HC rep nd fr hb rG
      have hth : w1.there pg 3 (#[.slice a1 g.rul.verbs.length m1, .string g.rul.kind, .string g.rul.team, .string g.rul.pre] : Array Value).size := uthere HG.out.own _ _ (by simp)
      obtain ⟨z, hz⟩ : ∃ z, z = w1.setCells pg 3 [.slice a1 g.rul.verbs.length m1, .string g.rul.kind, .string g.rul.team, .string g.rul.pre] := ⟨_, rfl⟩
      have hmk : Marks (fun b => b = pg) w1 z := by rw [hz]; exact mks_scs (S := fun b => b = pg) rfl _ _ _
      have HGz : Hid (WBox z pg 61 ([.int .i64 g.num, .string g.to_, .string g.by_, .slice a1 g.rul.verbs.length m1, .string g.rul.kind, .string g.rul.team, .string g.rul.pre])) := by
        show WBox _ _ _ _
        rw [hz]
        exact WBox.puts (x := [.int .i64 g.num, .string g.to_, .string g.by_]) (y := [.slice (some ⟨vb, 0, none⟩) g.rul.verbs.length g.rul.verbs.length, .string g.rul.kind, .string g.rul.team, .string g.rul.pre]) (z := []) HG.out [.slice a1 g.rul.verbs.length m1, .string g.rul.kind, .string g.rul.team, .string g.rul.pre] rfl
      have zr := ZR.out
      have hgl := HG.out.own.lt
      go_upto_region 11 with (refine wpList_store_mid rfl 59 _ _ rfl pg 3 #[.slice a1 g.rul.verbs.length m1, .string g.rul.kind, .string g.rul.team, .string g.rul.pre] rfl rfl hth (by kernel_rfl) (by simp [Value.oneCell']) ?_)
      first | rw [← hz] | (simp only [List.toList_toArray]; rw [← hz])
      clear hz hth hgl
      replace HB2 := uh (hmk.below (fun b e => by rw [e]; omega) HB2.out)
      replace HY2 := uh (HY2.out.mks hmk (by omega))
      replace HO2 := uh (HO2.out.mks hmk (by omega))
      replace HX2 := uh (HX2.out.mks hmk (by omega))
      replace HR2 := uh (HR2.out.keep hmk (fun b hb e => by have := HFl.out b hb; omega))
      replace HRG := uh (HRG.out.keep hmk (fun b hb e => by have := (HFV.out.2 b hb).1; have := HZ1.out.2; omega))
      have HZ2 : Hid (w1.heap.size ≤ z.heap.size) := hmk.size
      clear hmk HG
      obtain ⟨wb, hwb⟩ : ∃ wb, wb = z.alloc (.cells #[.int .i64 g.num, .string g.to_, .string g.by_, .slice a1 g.rul.verbs.length m1, .string g.rul.kind, .string g.rul.team, .string g.rul.pre] 61) := ⟨_, rfl⟩
      have hbb : Below z.heap.size z wb := by rw [hwb]; exact blw_alloc (Below.refl _ _) _
      obtain ⟨v', x3, F3, row, hrun, rep, nd, hsub, hgr, hrow⟩ := rep_append (P := Try.prog) 28 28 61 7 112 _ Try.cunderGateGrant Try.cinfoGateGrant rfl (by decide) shGateGrant rfl wb (HR2.out.later hbb) HN2.out.1 (by omega) (F' := FV) (d := eGn g) (c' := [.int .i64 g.num, .string g.to_, .string g.by_, .slice a1 g.rul.verbs.length m1, .string g.rul.kind, .string g.rul.team, .string g.rul.pre]) ⟨z.heap.size, 0, none⟩ (HRG.out.later hbb) HFV.out.1 (fun b hb e => by have := (HFV.out.2 b hb).1; have := HFl.out b e; have := HZ1.out.2; omega) (by rw [hwb]; exact news_new z #[.int .i64 g.num, .string g.to_, .string g.by_, .slice a1 g.rul.verbs.length m1, .string g.rul.kind, .string g.rul.team, .string g.rul.pre] 61)
      obtain ⟨wx, wc, hvx⟩ := rep.raw.len0
      subst hvx
      rw [hwb] at hrun
      have hne : ∀ b, row = some b → W.heap.size + 3 ≤ b := fun b e => HN2.out.2 b (hrow b e)
      have HY3 := uh ((HY2.out.later hbb).grown hgr (fun e => by have := hne _ e; omega))
      have HO3 := uh ((HO2.out.later hbb).grown hgr (fun e => by have := hne _ e; omega))
      have HX3 := uh ((HX2.out.later hbb).grown hgr (fun e => by have := hne _ e; omega))
      have HB3 : Hid (Below W.heap.size W x3) := blw_grown (blw_trans HB2.out hbb) hgr (fun b e => by have := hne b e; omega)
      have HS3 : Hid (∀ b ∈ F3, W.heap.size + 3 ≤ b) := fun b hb => by
        rcases hsub b hb with e | e | e
        · exact HN2.out.2 b e
        · have := (HFV.out.2 b e).1; have := HZ1.out.2; omega
        · have := hbb.size; have := HZ2.out; have := HZ1.out; omega
      obtain ⟨u, hu⟩ : ∃ u, u = x3.setCell ⟨W.heap.size + 2, 4, none⟩ (.slice wx (q + 1) wc) := ⟨_, rfl⟩
      have hmu : Marks (fun b => b = W.heap.size + 2) x3 u := by rw [hu]; exact Marks.sc (S := fun b => b = W.heap.size + 2) _ rfl _ _
      have HY4 : Hid (WBox u (W.heap.size + 2) 32 ([.int .i64 now, .int .i64 tk, .int .i64 giv, .slice none 0 0, .slice wx (q + 1) wc, .slice none 0 0, .slice none 0 0])) := by show WBox _ _ _ _; rw [hu]; exact HY3.out.set 4 _ (by simp)
      have HO4 := uh (HO3.out.mks hmu (by omega))
      have HX4 := uh (HX3.out.mks hmu (by omega))
      have HB4 : Hid (Below W.heap.size W u) := hmu.below (fun b e => by rw [e]; omega) HB3.out
      have HR4 : Hid (Rep u false [.row 61 shGateGrant] F3 [.row (q + 1) ((l.take (q + 1)).flatMap eGn)] [.slice wx (q + 1) wc]) := by
        show Rep _ _ _ _ _ _
        rw [take_fm eGn Gn.none l q hlt, ← HGG.out]
        exact rep.keep hmu (fun b hb e => by have := HS3.out b hb; omega)
      have HN4 : Hid F3.Nodup := nd
      clear rep nd hsub hgr hrow hmu hne hbb hwb
      have hgl := HGz.out.own.lt
      have hga := HGz.out.at_
      have yz := HY2.out.own.lt
      have y4 := HY2.out.get 4 _ rfl
      have yz3 := HY3.out.own.lt
      have y43 := HY3.out.get 4 _ rfl
      have yf3 := HY3.out.own.frozen 4
      go_wp2_with (first | (at_builtin; refine Go.Lib.wpList_append_run _ rfl _ _ 28 28 rfl _ _ rfl rfl _ x3 hrun ?_) | (refine wpList_load_mid rfl 61 _ rfl pg 0 rfl ([.int .i64 g.num, .string g.to_, .string g.by_, .slice a1 g.rul.verbs.length m1, .string g.rul.kind, .string g.rul.team, .string g.rul.pre]) _ hga Try.underlying61 rfl (by kernel_rfl) ?_))
      rw [← hu]
      clear hu hrun hgl hga yz y4 yz3 y43 yf3 HR2 HN2 HX2 HY2 HO2
      go_roundw
      case rel => exact ⟨q + 1, _, F3, by omega, by go_num, HY4.out, HO4.out, HX4.out, HR4.out, HN4.out, HS3.out, HB4.out⟩
      case measure => simp [intOf]; omega
    obtain rfl : q = l.length := by omega
    have hnlt : ¬ ((l.length : Int) < (l.length : Int)) := by omega
    have yz := HY2.out.own.lt
    have y5 := HY2.out.get 5 _ rfl
    have y6 := HY2.out.get 6 _ rfl
    have yf5 := HY2.out.own.frozen 5
    have yf6 := HY2.out.own.frozen 6
    have x5 := HX2.out.get 5 _ rfl
    have x6 := HX2.out.get 6 _ rfl
    have hrun5 := app_nil (P := Try.prog) 29 29 119 Try.cuL Try.ciL wr
    obtain ⟨u, hu⟩ : ∃ u, u = wr.setCell ⟨W.heap.size + 2, 5, none⟩ (.slice none 0 0) := ⟨_, rfl⟩
    have hmu : Marks (fun b => b = W.heap.size + 2) wr u := by rw [hu]; exact Marks.sc (S := fun b => b = W.heap.size + 2) _ rfl _ _
    have HYu : Hid (WBox u (W.heap.size + 2) 32 ([.int .i64 now, .int .i64 tk, .int .i64 giv, .slice none 0 0, .slice va l.length vc, .slice none 0 0, .slice none 0 0])) := by show WBox _ _ _ _; rw [hu]; exact HY2.out.set 5 _ (by simp)
    go_upto_region 13 with (at_builtin; refine Go.Lib.wpList_append_run _ rfl _ _ 29 29 rfl _ _ rfl rfl _ wr hrun5 ?_)
    rw [← hu]
    clear hu hrun5 yz y5 y6 yf5 yf6 x5 x6
    replace HX2 := uh (HX2.out.mks hmu (by omega))
    replace HO2 := uh (HO2.out.mks hmu (by omega))
    replace HB2 := uh (hmu.below (fun b e => by rw [e]; omega) HB2.out)
    replace HR2 := uh (HR2.out.keep hmu (fun b hb e => by have := HN2.out.2 b hb; omega))
    clear hmu HY2
    have yz := HYu.out.own.lt
    have y6 := HYu.out.get 6 _ rfl
    have yf6 := HYu.out.own.frozen 6
    have x6 := HX2.out.get 6 _ rfl
    have xz2 := HX2.out.lt
    have hrun6 := app_nil (P := Try.prog) 30 30 122 Try.cuP Try.ciP u
    obtain ⟨u2, hu2⟩ : ∃ u2, u2 = u.setCell ⟨W.heap.size + 2, 6, none⟩ (.slice none 0 0) := ⟨_, rfl⟩
    have hmu : Marks (fun b => b = W.heap.size + 2) u u2 := by rw [hu2]; exact Marks.sc (S := fun b => b = W.heap.size + 2) _ rfl _ _
    have HYv : Hid (WBox u2 (W.heap.size + 2) 32 ([.int .i64 now, .int .i64 tk, .int .i64 giv, .slice none 0 0, .slice va l.length vc, .slice none 0 0, .slice none 0 0])) := by show WBox _ _ _ _; rw [hu2]; exact HYu.out.set 6 _ (by simp)
    go_upto_region 14 with (at_builtin; refine Go.Lib.wpList_append_run _ rfl _ _ 30 30 rfl _ _ rfl rfl _ u hrun6 ?_)
    rw [← hu2]
    clear hu2 hrun6 yz y6 yf6 x6 xz2
    replace HO2 := uh (HO2.out.mks hmu (by omega))
    replace HB2 := uh (hmu.below (fun b e => by rw [e]; omega) HB2.out)
    replace HR2 := uh (HR2.out.keep hmu (fun b hb e => by have := HN2.out.2 b hb; omega))
    clear hmu HYu
    have yz := HYv.out.own.lt
    have ya := HYv.out.at_
    have hth : u2.there (W.heap.size + 1) 0 (#[.int .i64 now, .int .i64 tk, .int .i64 giv, .slice none 0 0, .slice va l.length vc, .slice none 0 0, .slice none 0 0] : Array Value).size := uthere HO2.out.own _ _ (by simp)
    obtain ⟨we, hwe⟩ : ∃ we, we = u2.setCells (W.heap.size + 1) 0 ([.int .i64 now, .int .i64 tk, .int .i64 giv, .slice none 0 0, .slice va l.length vc, .slice none 0 0, .slice none 0 0]) := ⟨_, rfl⟩
    have hrt : we.rangeAt (W.heap.size + 1) 0 ([.int .i64 now, .int .i64 tk, .int .i64 giv, .slice none 0 0, .slice va l.length vc, .slice none 0 0, .slice none 0 0]) := by rw [hwe]; exact World.rangeAt_setCells_same _ _ _ _ hth
    have HMK : Hid (Marks (fun b => b = W.heap.size + 1) u2 we) := by show Marks _ _ _; rw [hwe]; exact mks_scs (S := fun b => b = W.heap.size + 1) rfl _ _ _
    have HBB : Hid (Below W.heap.size W we) := by show Below _ _ _; rw [hwe]; exact blw_scs (by omega) _ _ _ HB2.out
    go_wp2_with (first | (refine wpList_load_mid rfl 32 _ rfl (W.heap.size + 2) 0 rfl ([.int .i64 now, .int .i64 tk, .int .i64 giv, .slice none 0 0, .slice va l.length vc, .slice none 0 0, .slice none 0 0]) _ ya Try.underlying32 rfl (by kernel_rfl) ?_) | (refine wpList_store_mid rfl 32 _ _ rfl (W.heap.size + 1) 0 #[.int .i64 now, .int .i64 tk, .int .i64 giv, .slice none 0 0, .slice va l.length vc, .slice none 0 0, .slice none 0 0] rfl rfl hth (by kernel_rfl) (by simp [Value.oneCell']) ?_))
    first | rw [← hwe] | (simp only [List.toList_toArray]; rw [← hwe])
    try simp only [Act.put]
    refine bodyPost_ret (v := .agg #[.int .i64 now, .int .i64 tk, .int .i64 giv, .slice none 0 0, .slice va l.length vc, .slice none 0 0, .slice none 0 0]) (by simp [results, Try.results16, asAddr, run_loadVar_mid (P := Try.prog) _ _ _ 32 ([.int .i64 now, .int .i64 tk, .int .i64 giv, .slice none 0 0, .slice va l.length vc, .slice none 0 0, .slice none 0 0]) _ hrt Try.underlying32 rfl (by kernel_rfl)]) rfl ?_
    have HR5 := HR2.out.keep HMK.out (fun b hb e => by have := HN2.out.2 b hb; omega)
    rw [List.take_length] at HR5
    have hnil : ∀ (t : TypeId) (sh : List Sh), Rep we false [.row t sh] [] [.row 0 []] [.slice none 0 0] := fun t sh => .emp _ _ _ rfl .nil
    refine ⟨[.int .i64 now, .int .i64 tk, .int .i64 giv, .slice none 0 0, .slice va l.length vc, .slice none 0 0, .slice none 0 0], _, rfl, repGateBook_mk _ _ _ (hnil _ _) HR5 (hnil _ _) (hnil _ _), ?_, ?_, HBB.out⟩
    · simpa using HN2.out.1
    · intro b hb
      have hb2 : b ∈ F := by simpa using hb
      have := HN2.out.2 b hb2
      omega
end Go.Proofs.Ytkehaeppnmlafaa
