/-
  The copy of a house: by the specification.
-/
import Derived.LoopN
import Derived.Test.YtfkkohfjkofgnaaGreatHNp
namespace Go.Proofs.YtfkkohfjkofgnaaGreat
open Go.RowKit Go.Deep


set_option maxRecDepth 8000 in
set_option maxHeartbeats 16000000 in
theorem l34HouseS (K : Hs) (p0 p1 : Nat) (W : World) (h : HsR W p0 p1 K) :
    Calls Tryz.prog 17 #[.agg #[.slice (some ⟨p0, 0, none⟩) K.tms.length K.tms.length, .slice (some ⟨p1, 0, none⟩) K.grs.length K.grs.length]] W (Ans shHallHouse (eHs K) W) := by
  have HH := uh h.g
  have HT := uh h.t
  have hl := h.g.len
  have hn := h.n
  clear h
  obtain ⟨wa, hwa⟩ : ∃ wa, wa = (W.alloc (.cells #[.slice (some ⟨p0, 0, none⟩) K.tms.length K.tms.length, .slice (some ⟨p1, 0, none⟩) K.grs.length K.grs.length] 30)).alloc (.cells #[.slice none 0 0, .slice none 0 0] 30) := ⟨_, rfl⟩
  have HBa : Hid (Below W.heap.size W wa) := by show Below _ _ _; rw [hwa]; exact blw_alloc (blw_alloc (Below.refl _ _) _) _
  have HXa : Hid (LBox wa W.heap.size [.slice (some ⟨p0, 0, none⟩) K.tms.length K.tms.length, .slice (some ⟨p1, 0, none⟩) K.grs.length K.grs.length]) := by show LBox _ _ _; rw [hwa]; exact (LBox.new W #[.slice (some ⟨p0, 0, none⟩) K.tms.length K.tms.length, .slice (some ⟨p1, 0, none⟩) K.grs.length K.grs.length] _ _ rfl).later (blw_alloc (Below.refl _ _) _)
  have HOa : Hid (WBox wa (W.heap.size + 1) 30 [.slice none 0 0, .slice none 0 0]) := by show WBox _ _ _ _; rw [hwa]; exact WBox.new _ [.slice none 0 0, .slice none 0 0] _ _ (by simp)
  have HZa : Hid (wa.heap.size = W.heap.size + 2) := by show _ = _; rw [hwa]; simp
  obtain ⟨wb, hwb⟩ : ∃ wb, wb = wa.alloc (.cells #[] 86) := ⟨_, rfl⟩
  have hbb : Below wa.heap.size wa wb := by rw [hwb]; exact blw_alloc (Below.refl _ _) _
  obtain ⟨v', W1, xs, hrun, hg, hb⟩ := app_copy (P := Tryz.prog) wa.heap.size 27 27 86 86 2 32 _ Tryz.cunderGateTeam Tryz.cinfoGateTeam rfl (by decide) (by decide) shGateTeam rfl (by simp [flatB]) wb (.slice (some ⟨wa.heap.size, 0, none⟩) 0 0) (Or.inr ⟨wa.heap.size, rfl, Nat.le_refl _, by rw [hwb]; exact heap_alloc_new _ _⟩) hbb.size K.tms.length (K.tms.flatMap eTm) (.slice (some ⟨p0, 0, none⟩) K.tms.length K.tms.length) ((HT.out.later HBa.out).later hbb) (by omega)
  have hb1 : Below wa.heap.size wa W1 := blw_trans hbb hb
  rw [hwb] at hrun
  obtain ⟨wx0, wc0, hvx⟩ := hg.shape
  subst hvx
  obtain ⟨FT, rT, ndT, frT⟩ := hg.done
  clear hg
  obtain ⟨px, hpx⟩ : ∃ px, px = W1.heap.size := ⟨_, rfl⟩
  have HPX : Hid (W.heap.size + 2 ≤ px) := by show _ ≤ _; rw [hpx, ← HZa.out]; exact hb1.size
  have HFT : Hid (FT.Nodup ∧ ∀ b ∈ FT, W.heap.size + 2 ≤ b ∧ b < px) := ⟨ndT, fun b hb => by have := frT b hb; have := rT.lt b hb; rw [← HZa.out, hpx]; exact ⟨by omega, by omega⟩⟩
  obtain ⟨y, hy⟩ : ∃ y, y = W1.alloc (.cells #[.slice wx0 K.tms.length wc0, .slice none 0 0] 30) := ⟨_, rfl⟩
  have hby : Below W1.heap.size W1 y := by rw [hy]; exact blw_alloc (Below.refl _ _) _
  have hby1 : Below wa.heap.size wa y := blw_trans hb1 hby
  have HB : Hid (Below W.heap.size W y) := blw_trans HBa.out hby1
  have HX := uh (HXa.out.later hby1)
  have HO := uh (HOa.out.later hby1)
  have HY : Hid (WBox y px 30 [.slice wx0 K.tms.length wc0, .slice none 0 0]) := by show WBox _ _ _ _; rw [hy]; exact WBox.new _ _ _ _ hpx
  have RT := uh (rT.later hby)
  clear rT ndT frT hby hby1 hb hbb
  go_enter Tryz.func17, Tryz.ntmps17
  go_upto_region 1 with fail
  rw [← hwa]
  clear hwa
  have xz := HXa.out.lt
  have x0 := HXa.out.get 0 _ rfl
  have xz1 := (HXa.out.later hb1).lt
  have x01 := (HXa.out.later hb1).get 0 _ rfl
  go_upto_region 2 with (at_builtin; refine Go.Lib.wpList_append_run _ rfl _ _ 27 27 rfl _ _ rfl rfl _ W1 hrun ?_)
  rw [← hy, ← hpx]
  clear hy hpx xz x0 xz1 x01 hrun HBa HXa HOa HZa hb1 hwb
  have xz := HX.out.lt
  go_wp2
  clear xz
  go_loopw [4] (fun i wr => ∃ (q : Nat) (v : Value) (F : List Nat), q ≤ K.grs.length ∧ i = .int .i64 q ∧ WBox wr px 30 [.slice wx0 K.tms.length wc0, v] ∧ WBox wr (W.heap.size + 1) 30 [.slice none 0 0, .slice none 0 0] ∧ LBox wr W.heap.size [.slice (some ⟨p0, 0, none⟩) K.tms.length K.tms.length, .slice (some ⟨p1, 0, none⟩) K.grs.length K.grs.length] ∧ Rep wr false [.row 74 shGateGrant] F [.row q ((K.grs.take q).flatMap eGn)] [v] ∧ F.Nodup ∧ (∀ b ∈ F, px + 1 ≤ b) ∧ Rep wr false [.row 86 shGateTeam] FT [.row K.tms.length (K.tms.flatMap eTm)] [.slice wx0 K.tms.length wc0] ∧ Below W.heap.size W wr) (fun i _ => K.grs.length - (intOf i).toNat)
  case atStart => exact ⟨0, _, [], Nat.zero_le _, rfl, HY.out, HO.out, HX.out, .emp _ _ _ rfl .nil, List.nodup_nil, by simp, RT.out, HB.out⟩
  case round =>
    obtain ⟨q, v, F, hq, rfl, hY, hO, hX, hR, hN, hF, hRT, hB⟩ := hrel
    have HY2 := uh hY
    have HO2 := uh hO
    have HX2 := uh hX
    have HR2 := uh hR
    have HT2 := uh hRT
    have HN2 := uh (And.intro hN hF)
    have HB2 := uh hB
    obtain ⟨va, vc, hva⟩ := hR.raw.len0
    subst hva
    clear hY hO hX hR hN hF hB hRT HX HB HO HY RT HT
    have xz := HX2.out.lt
    have x4 := HX2.out.get 1 _ rfl
    by_cases hlt : q < K.grs.length
    · have H1 := uh (HH.out.later HB2.out)
      obtain ⟨g, hg⟩ : ∃ g : Gn, g = K.grs.getD q Gn.none := ⟨_, rfl⟩
      obtain ⟨vb, hrg, hvR, hvn⟩ := H1.out.at_ q hlt
      rw [← hg] at hrg hvR hvn
      have hpl := H1.out.lt
      obtain ⟨y, hy⟩ : ∃ y, y = wr.alloc (.cells #[.int .i64 g.num, .string g.to_, .string g.by_, .slice (some ⟨vb, 0, none⟩) g.rul.verbs.length g.rul.verbs.length, .string g.rul.kind, .string g.rul.team, .string g.rul.pre] 74) := ⟨_, rfl⟩
      have hby : Below wr.heap.size wr y := by rw [hy]; exact blw_alloc (Below.refl _ _) _
      have HG : Hid (WBox y wr.heap.size 74 [.int .i64 g.num, .string g.to_, .string g.by_, .slice (some ⟨vb, 0, none⟩) g.rul.verbs.length g.rul.verbs.length, .string g.rul.kind, .string g.rul.team, .string g.rul.pre]) := by show WBox _ _ _ _; rw [hy]; exact WBox.new _ [.int .i64 g.num, .string g.to_, .string g.by_, .slice (some ⟨vb, 0, none⟩) g.rul.verbs.length g.rul.verbs.length, .string g.rul.kind, .string g.rul.team, .string g.rul.pre] _ _ rfl
      have HGG := uh hg
      clear hg
      have hm0 : (0 : Int) ≤ (q : Int) := by omega
      have hm3 : (q : Int) < (K.grs.length : Int) := by omega
      go_upto_region 6 with (refine wpList_load_mid rfl 74 _ rfl p1 (q * 7) rfl [.int .i64 g.num, .string g.to_, .string g.by_, .slice (some ⟨vb, 0, none⟩) g.rul.verbs.length g.rul.verbs.length, .string g.rul.kind, .string g.rul.team, .string g.rul.pre] _ hrg Tryz.underlying74 rfl (by kernel_rfl) ?_)
      rw [← hy]
      clear hy xz x4 hrg
      have ZR : Hid (px < wr.heap.size) := HY2.out.own.lt
      obtain ⟨pg, hpg⟩ : ∃ pg, pg = wr.heap.size := ⟨_, rfl⟩
      have HTl : Hid (∀ b ∈ FT, b < px ∧ W.heap.size + 2 ≤ b) := fun b hb => ⟨(HFT.out.2 b hb).2, (HFT.out.2 b hb).1⟩
      replace HB2 := uh (blw_trans HB2.out hby)
      replace HY2 := uh (HY2.out.later hby)
      replace HO2 := uh (HO2.out.later hby)
      replace HX2 := uh (HX2.out.later hby)
      replace HT2 := uh (HT2.out.later hby)
      have HFl : Hid (∀ b ∈ F, b < pg) := fun b hb => by rw [hpg]; exact HR2.out.lt b hb
      replace HR2 := uh (HR2.out.later hby)
      have HC := uh (l5RuleC g.rul (some ⟨vb, 0, none⟩) g.rul.verbs.length y (hvR.later hby) hvn)
      rw [← hpg] at HG ZR ⊢
      clear hby hpg hvR hvn H1 hpl
      have hgl := HG.out.own.lt
      have hga : y.rangeAt pg 3 [.slice (some ⟨vb, 0, none⟩) g.rul.verbs.length g.rul.verbs.length, .string g.rul.kind, .string g.rul.team, .string g.rul.pre] := (rA_cut (x := [.int .i64 g.num, .string g.to_, .string g.by_]) (y := [.slice (some ⟨vb, 0, none⟩) g.rul.verbs.length g.rul.verbs.length, .string g.rul.kind, .string g.rul.team, .string g.rul.pre]) HG.out.at_).2
      go_wp2_with (refine wpList_load_mid rfl 72 _ rfl pg 3 rfl [.slice (some ⟨vb, 0, none⟩) g.rul.verbs.length g.rul.verbs.length, .string g.rul.kind, .string g.rul.team, .string g.rul.pre] _ hga Tryz.underlying72 rfl (by kernel_rfl) ?_)
      refine HC.out.mono ?_
      rintro e w1 ⟨cc, FV, rfl, rep, nd, fr, hb⟩
      obtain ⟨v1, a1, m1, hv1, hcc, rG⟩ := grant_rep rep
      subst hv1
      subst hcc
      have HZ1 : Hid (y.heap.size ≤ w1.heap.size ∧ pg < y.heap.size) := ⟨hb.size, HG.out.own.lt⟩
      have HFV : Hid (FV.Nodup ∧ ∀ b ∈ FV, y.heap.size ≤ b ∧ b < w1.heap.size) := ⟨nd, fun b hb => ⟨fr b hb, rep.lt b hb⟩⟩
      replace HG := uh (HG.out.later hb)
      replace HB2 := uh (blw_trans HB2.out hb)
      replace HY2 := uh (HY2.out.later hb)
      replace HO2 := uh (HO2.out.later hb)
      replace HX2 := uh (HX2.out.later hb)
      replace HR2 := uh (HR2.out.later hb)
      replace HT2 := uh (HT2.out.later hb)
      have HRG := uh rG
      clear hgl hga HC rep nd fr hb rG
      have hth : w1.there pg 3 (#[.slice a1 g.rul.verbs.length m1, .string g.rul.kind, .string g.rul.team, .string g.rul.pre] : Array Value).size := uthere HG.out.own _ _ (by simp)
      obtain ⟨z, hz⟩ : ∃ z, z = w1.setCells pg 3 [.slice a1 g.rul.verbs.length m1, .string g.rul.kind, .string g.rul.team, .string g.rul.pre] := ⟨_, rfl⟩
      have hmk : Marks (fun b => b = pg) w1 z := by rw [hz]; exact mks_scs (S := fun b => b = pg) rfl _ _ _
      have HGz : Hid (WBox z pg 74 ([.int .i64 g.num, .string g.to_, .string g.by_, .slice a1 g.rul.verbs.length m1, .string g.rul.kind, .string g.rul.team, .string g.rul.pre])) := by
        show WBox _ _ _ _
        rw [hz]
        exact WBox.puts (x := [.int .i64 g.num, .string g.to_, .string g.by_]) (y := [.slice (some ⟨vb, 0, none⟩) g.rul.verbs.length g.rul.verbs.length, .string g.rul.kind, .string g.rul.team, .string g.rul.pre]) (z := []) HG.out [.slice a1 g.rul.verbs.length m1, .string g.rul.kind, .string g.rul.team, .string g.rul.pre] rfl
      have zr := ZR.out
      have zpx := HPX.out
      have hgl := HG.out.own.lt
      go_upto_region 7 with (refine wpList_store_mid rfl 72 _ _ rfl pg 3 #[.slice a1 g.rul.verbs.length m1, .string g.rul.kind, .string g.rul.team, .string g.rul.pre] rfl rfl hth (by kernel_rfl) (by simp [Value.oneCell']) ?_)
      first | rw [← hz] | (simp only [List.toList_toArray]; rw [← hz])
      clear hz hth hgl
      replace HB2 := uh (hmk.below (fun b e => by rw [e]; omega) HB2.out)
      replace HY2 := uh (HY2.out.mks hmk (by omega))
      replace HO2 := uh (HO2.out.mks hmk (by omega))
      replace HX2 := uh (HX2.out.mks hmk (by omega))
      replace HR2 := uh (HR2.out.keep hmk (fun b hb e => by have := HFl.out b hb; omega))
      replace HT2 := uh (HT2.out.keep hmk (fun b hb e => by have := HTl.out b hb; omega))
      replace HRG := uh (HRG.out.keep hmk (fun b hb e => by have := (HFV.out.2 b hb).1; have := HZ1.out.2; omega))
      have HZ2 : Hid (w1.heap.size ≤ z.heap.size) := hmk.size
      clear hmk HG
      obtain ⟨wb, hwb⟩ : ∃ wb, wb = z.alloc (.cells #[.int .i64 g.num, .string g.to_, .string g.by_, .slice a1 g.rul.verbs.length m1, .string g.rul.kind, .string g.rul.team, .string g.rul.pre] 74) := ⟨_, rfl⟩
      have hbb : Below z.heap.size z wb := by rw [hwb]; exact blw_alloc (Below.refl _ _) _
      obtain ⟨v', x3, F3, row, hrun, rep, nd, hsub, hgr, hrow⟩ := rep_append (P := Tryz.prog) 28 28 74 7 112 _ Tryz.cunderGateGrant Tryz.cinfoGateGrant rfl (by decide) shGateGrant rfl wb (HR2.out.later hbb) HN2.out.1 (by omega) (F' := FV) (d := eGn g) (c' := [.int .i64 g.num, .string g.to_, .string g.by_, .slice a1 g.rul.verbs.length m1, .string g.rul.kind, .string g.rul.team, .string g.rul.pre]) ⟨z.heap.size, 0, none⟩ (HRG.out.later hbb) HFV.out.1 (fun b hb e => by have := (HFV.out.2 b hb).1; have := HFl.out b e; have := HZ1.out.2; omega) (by rw [hwb]; exact news_new z #[.int .i64 g.num, .string g.to_, .string g.by_, .slice a1 g.rul.verbs.length m1, .string g.rul.kind, .string g.rul.team, .string g.rul.pre] 74)
      obtain ⟨wx, wc, hvx⟩ := rep.raw.len0
      subst hvx
      rw [hwb] at hrun
      have hne : ∀ b, row = some b → px + 1 ≤ b := fun b e => HN2.out.2 b (hrow b e)
      have HY3 := uh ((HY2.out.later hbb).grown hgr (fun e => by have := hne _ e; omega))
      have HO3 := uh ((HO2.out.later hbb).grown hgr (fun e => by have := hne _ e; omega))
      have HX3 := uh ((HX2.out.later hbb).grown hgr (fun e => by have := hne _ e; omega))
      have HT3 := uh ((HT2.out.later hbb).grown hgr (fun b hb e => by have := hne _ e; have := HTl.out b hb; omega))
      have HB3 : Hid (Below W.heap.size W x3) := blw_grown (blw_trans HB2.out hbb) hgr (fun b e => by have := hne b e; omega)
      have HS3 : Hid (∀ b ∈ F3, px + 1 ≤ b) := fun b hb => by
        rcases hsub b hb with e | e | e
        · exact HN2.out.2 b e
        · have := (HFV.out.2 b e).1; have := HZ1.out.2; omega
        · have := hbb.size; have := HZ2.out; have := HZ1.out; omega
      obtain ⟨u, hu⟩ : ∃ u, u = x3.setCell ⟨px, 1, none⟩ (.slice wx (q + 1) wc) := ⟨_, rfl⟩
      have hmu : Marks (fun b => b = px) x3 u := by rw [hu]; exact Marks.sc (S := fun b => b = px) _ rfl _ _
      have HY4 : Hid (WBox u px 30 ([.slice wx0 K.tms.length wc0, .slice wx (q + 1) wc])) := by show WBox _ _ _ _; rw [hu]; exact HY3.out.set 1 _ (by simp)
      have HO4 := uh (HO3.out.mks hmu (by omega))
      have HX4 := uh (HX3.out.mks hmu (by omega))
      have HT4 := uh (HT3.out.keep hmu (fun b hb e => by have := HTl.out b hb; omega))
      have HB4 : Hid (Below W.heap.size W u) := hmu.below (fun b e => by rw [e]; omega) HB3.out
      have HR4 : Hid (Rep u false [.row 74 shGateGrant] F3 [.row (q + 1) ((K.grs.take (q + 1)).flatMap eGn)] [.slice wx (q + 1) wc]) := by
        show Rep _ _ _ _ _ _
        rw [take_fm eGn Gn.none K.grs q hlt, ← HGG.out]
        exact rep.keep hmu (fun b hb e => by have := HS3.out b hb; omega)
      have HN4 : Hid F3.Nodup := nd
      clear rep nd hsub hgr hrow hmu hne hbb hwb
      have hgl := HGz.out.own.lt
      have hga := HGz.out.at_
      have yz := HY2.out.own.lt
      have y4 := HY2.out.get 1 _ rfl
      have yz3 := HY3.out.own.lt
      have y43 := HY3.out.get 1 _ rfl
      have yf3 := HY3.out.own.frozen 1
      go_wp2_with (first | (at_builtin; refine Go.Lib.wpList_append_run _ rfl _ _ 28 28 rfl _ _ rfl rfl _ x3 hrun ?_) | (refine wpList_load_mid rfl 74 _ rfl pg 0 rfl ([.int .i64 g.num, .string g.to_, .string g.by_, .slice a1 g.rul.verbs.length m1, .string g.rul.kind, .string g.rul.team, .string g.rul.pre]) _ hga Tryz.underlying74 rfl (by kernel_rfl) ?_))
      rw [← hu]
      clear hu hrun hgl hga yz y4 yz3 y43 yf3 HR2 HN2 HX2 HY2 HO2 zr zpx
      go_roundw
      case rel => exact ⟨q + 1, _, F3, by omega, by go_num, HY4.out, HO4.out, HX4.out, HR4.out, HN4.out, HS3.out, HT4.out, HB4.out⟩
      case measure => simp [intOf]; omega
    obtain rfl : q = K.grs.length := by omega
    have hnlt : ¬ ((K.grs.length : Int) < (K.grs.length : Int)) := by omega
    have yz := HY2.out.own.lt
    have y := HY2.out.at_
    have hth : wr.there (W.heap.size + 1) 0 (#[.slice wx0 K.tms.length wc0, .slice va K.grs.length vc] : Array Value).size := uthere HO2.out.own _ _ (by simp)
    obtain ⟨we, hwe⟩ : ∃ we, we = wr.setCells (W.heap.size + 1) 0 [.slice wx0 K.tms.length wc0, .slice va K.grs.length vc] := ⟨_, rfl⟩
    have hrt : we.rangeAt (W.heap.size + 1) 0 [.slice wx0 K.tms.length wc0, .slice va K.grs.length vc] := by rw [hwe]; exact World.rangeAt_setCells_same _ _ _ _ hth
    have HMK : Hid (Marks (fun b => b = W.heap.size + 1) wr we) := by show Marks _ _ _; rw [hwe]; exact mks_scs (S := fun b => b = W.heap.size + 1) rfl _ _ _
    have HBB : Hid (Below W.heap.size W we) := by show Below _ _ _; rw [hwe]; exact blw_scs (by omega) _ _ _ HB2.out
    have HRG2 : Hid (Rep wr false [.row 74 shGateGrant] F [.row K.grs.length (K.grs.flatMap eGn)] [.slice va K.grs.length vc]) := by have := HR2.out; rw [List.take_length] at this; exact this
    go_wp2_with (first | (refine wpList_load_mid rfl 30 _ rfl px 0 rfl [.slice wx0 K.tms.length wc0, .slice va K.grs.length vc] _ y Tryz.underlying30 rfl (by kernel_rfl) ?_) | (refine wpList_store_mid rfl 30 _ _ rfl (W.heap.size + 1) 0 #[.slice wx0 K.tms.length wc0, .slice va K.grs.length vc] rfl rfl hth (by kernel_rfl) (by simp [Value.oneCell']) ?_))
    first | rw [← hwe] | (simp only [List.toList_toArray]; rw [← hwe])
    try simp only [Act.put]
    refine bodyPost_ret (v := .agg #[.slice wx0 K.tms.length wc0, .slice va K.grs.length vc]) (by simp [results, Tryz.results17, asAddr, run_loadVar_mid (P := Tryz.prog) _ _ _ 30 [.slice wx0 K.tms.length wc0, .slice va K.grs.length vc] _ hrt Tryz.underlying30 rfl (by kernel_rfl)]) rfl ?_
    have hpx := HPX.out
    refine ⟨[.slice wx0 K.tms.length wc0, .slice va K.grs.length vc], _, rfl, repHallHouse_mk (HT2.out.keep HMK.out (fun b hb e => by have := HFT.out.2 b hb; omega)) (HRG2.out.keep HMK.out (fun b hb e => by have := HN2.out.2 b hb; omega)), ?_, fun b hb => ?_, HBB.out⟩
    · rw [List.append_nil, List.nodup_append]
      exact ⟨HFT.out.1, HN2.out.1, fun x hx y hy e => by have := HFT.out.2 x hx; have := HN2.out.2 y hy; omega⟩
    · rw [List.append_nil] at hb
      rcases List.mem_append.1 hb with q | q
      · have := HFT.out.2 b q; omega
      · have := HN2.out.2 b q; omega
end Go.Proofs.YtfkkohfjkofgnaaGreat
