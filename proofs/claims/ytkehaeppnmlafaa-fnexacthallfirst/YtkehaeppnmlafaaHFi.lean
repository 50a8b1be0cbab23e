/-
  The first books of a house: by the program.
-/
import Derived.Lib.AppendZerosOnto
import Derived.Test.YtkehaeppnmlafaaHFp
import Derived.Test.YtkehaeppnmlafaaHKi
namespace Go.Proofs.Ytkehaeppnmlafaa
open Go.RowKit Go.Deep


set_option maxRecDepth 8000 in
set_option maxHeartbeats 8000000 in
/-- Room for n grants. -/
theorem growGn (n : Nat) (W : World) (hn : n ≤ 1048576) : Calls Try.prog 44 #[.slice none 0 0, .int .i64 n] W (AnsL [.row 61 shGateGrant] (.row 0 []) W) := by
  have h1 : ¬ ((n : Int) < 0) := by omega
  by_cases h0 : n = 0
  · subst h0
    go_enter Try.func44, Try.ntmps44
    go_wp2
    go_ret
    exact ⟨_, [], rfl, .emp _ _ _ rfl .nil, List.nodup_nil, by simp, Below.refl _ _⟩
  obtain ⟨i0, hi0, hzz⟩ := Option.map_eq_some_iff.1 Try.cinfoGateGrant
  simp only [Prod.mk.injEq] at hzz
  obtain ⟨hz, hs, hby⟩ := hzz
  have hrz : ∀ ty, (Builtin.append_ #[28, 3] ty #[.slice none 0 0, .int .i64 (n : Int)]).run Try.prog W = .ok (.slice (some ⟨W.heap.size, 0, none⟩) n (grownCap W n 0 61)) (W.drew.alloc (.cells ((#[] : Array Value) ++ Builtin.zeroCells #[.int .i64 0, .string ByteArray.empty, .string ByteArray.empty, .slice none 0 0, .string ByteArray.empty, .string ByteArray.empty, .string ByteArray.empty] n ++ Builtin.zeroCells #[.int .i64 0, .string ByteArray.empty, .string ByteArray.empty, .slice none 0 0, .string ByteArray.empty, .string ByteArray.empty, .string ByteArray.empty] (grownCap W n 0 61 - n)) 61)) := fun ty => by
    have := Lib.run_append_grow_zeros (P := Try.prog) W 28 3 ty 61 i0 _ .i64 .i64 Try.cunderGateGrant Try.underlying3 hi0 hz none 0 0 [] (run_firstCells_none W.drew i0.size 0 0 0) n (by omega) (by rw [hs]; decide) (by omega) (by omega) (by rw [hby]; omega) (growslice_fits (by omega) (by rw [hby]; omega))
    rw [Nat.zero_add] at this
    exact this
  have hG1 : n ≤ grownCap W n 0 61 := grownCap_ge W _ _ _
  have hG2 := grownCap_le_maxLen W n 0 61 (by unfold maxLen; omega)
  obtain ⟨G, hG⟩ : ∃ G, G = grownCap W n 0 61 := ⟨_, rfl⟩
  rw [← hG] at hrz hG1 hG2
  obtain ⟨cur, hcur⟩ : ∃ cur, cur = (#[] : Array Value) ++ Builtin.zeroCells #[.int .i64 0, .string ByteArray.empty, .string ByteArray.empty, .slice none 0 0, .string ByteArray.empty, .string ByteArray.empty, .string ByteArray.empty] n ++ Builtin.zeroCells #[.int .i64 0, .string ByteArray.empty, .string ByteArray.empty, .slice none 0 0, .string ByteArray.empty, .string ByteArray.empty, .string ByteArray.empty] (G - n) := ⟨_, rfl⟩
  have hcs : cur.size = G * 7 := by rw [hcur, Array.size_append, Array.size_append, size_zeroCells, size_zeroCells]; simp; omega
  rw [← hcur] at hrz
  clear hcur hG
  obtain ⟨w1, hw1⟩ : ∃ w1, w1 = W.drew.alloc (.cells cur 61) := ⟨_, rfl⟩
  have HB : Hid (Below W.heap.size W w1) := by show Below _ _ _; rw [hw1]; exact blw_alloc (Below.drew (Below.refl _ _)) _
  have HO : Hid (OwnBlk w1 W.heap.size 61 (G * 7)) := by show OwnBlk _ _ _ _; rw [hw1]; exact ⟨cur, heap_alloc_new W.drew _, hcs⟩
  rw [← hw1] at hrz
  unfold maxLen at hG2
  have hg0 : (0 : Int) < (n : Int) := by omega
  clear hw1 hcs
  go_enter Try.func44, Try.ntmps44
  go_wp2_with (at_builtin; refine Lib.wpList_append_run _ rfl _ _ 28 3 rfl _ _ rfl rfl _ w1 (hrz _) ?_)
  all_goals (go_ret; exact ⟨_, [W.heap.size], rfl, .row _ _ W.heap.size 0 0 G 61 (G * 7) [] [] [] HO.out (by simp) (by simp) ⟨by omega, by omega⟩ (rA_nil _ _ _) .nil .nil, by simp, by simp, HB.out⟩)

set_option maxRecDepth 8000 in
set_option maxHeartbeats 16000000 in
theorem copyGrantsI (l : List Gn) (p : Nat) (W : World) (h : GnsR W p l) :
    Calls Try.prog 20 #[.slice (some ⟨p, 0, none⟩) l.length l.length, .func (.func 21) #[] #[]] W (AnsL [.row 61 shGateGrant] (.row l.length (l.flatMap eGn)) W) := by
  have HH := uh h
  have hl := h.len
  clear h
  go_enter Try.func20, Try.ntmps20
  go_wp2_with fail
  refine (growGn l.length W hl).mono ?_
  rintro e w0 ⟨v, F, rfl, r, nd, fr, hb⟩
  obtain ⟨va, vc, hva⟩ := r.raw.len0
  subst hva
  have HR := uh r
  have HN := uh (And.intro nd fr)
  have HB := uh hb
  clear r nd fr hb
  go_wp2
  go_loopw [5, 13] (fun vv i wr => ∃ (q : Nat) (F : List Nat), q ≤ l.length ∧ i = .int .i64 q ∧ Rep wr false [.row 61 shGateGrant] F [.row q ((l.take q).flatMap eGn)] [vv] ∧ F.Nodup ∧ (∀ b ∈ F, W.heap.size ≤ b) ∧ Below W.heap.size W wr) (fun _ i _ => l.length - (intOf i).toNat)
  case atStart => exact ⟨0, F, Nat.zero_le _, rfl, HR.out, HN.out.1, HN.out.2, HB.out⟩
  case round =>
    obtain ⟨q, F2, hq, rfl, hR, hN, hF, hB⟩ := hrel
    have HR2 := uh hR
    have HN2 := uh (And.intro hN hF)
    have HB2 := uh hB
    obtain ⟨va2, vc2, hva⟩ := hR.raw.len0
    subst hva
    clear hR hN hF hB HR HN HB
    by_cases hlt : q < l.length
    · have H1 := uh (HH.out.later HB2.out)
      obtain ⟨g, hg⟩ : ∃ g : Gn, g = l.getD q Gn.none := ⟨_, rfl⟩
      obtain ⟨vb, hrg, hvR, hvn⟩ := H1.out.at_ q hlt
      rw [← hg] at hrg hvR hvn
      have hpl := H1.out.lt
      obtain ⟨y, hy⟩ : ∃ y, y = wr.alloc (.cells #[.int .i64 g.num, .string g.to_, .string g.by_, .slice (some ⟨vb, 0, none⟩) g.rul.verbs.length g.rul.verbs.length, .string g.rul.kind, .string g.rul.team, .string g.rul.pre] 61) := ⟨_, rfl⟩
      have hby : Below wr.heap.size wr y := by rw [hy]; exact blw_alloc (Below.refl _ _) _
      have HG : Hid (LBox y wr.heap.size [.int .i64 g.num, .string g.to_, .string g.by_, .slice (some ⟨vb, 0, none⟩) g.rul.verbs.length g.rul.verbs.length, .string g.rul.kind, .string g.rul.team, .string g.rul.pre]) := by show LBox _ _ _; rw [hy]; exact LBox.new _ #[.int .i64 g.num, .string g.to_, .string g.by_, .slice (some ⟨vb, 0, none⟩) g.rul.verbs.length g.rul.verbs.length, .string g.rul.kind, .string g.rul.team, .string g.rul.pre] _ _ rfl
      have HGG := uh hg
      clear hg
      have hm0 : (0 : Int) ≤ (q : Int) := by omega
      have hm3 : (q : Int) < (l.length : Int) := by omega
      go_upto_region 5 with (refine wpList_load_mid rfl 61 _ rfl p (q * 7) rfl [.int .i64 g.num, .string g.to_, .string g.by_, .slice (some ⟨vb, 0, none⟩) g.rul.verbs.length g.rul.verbs.length, .string g.rul.kind, .string g.rul.team, .string g.rul.pre] _ hrg Try.underlying61 rfl (by kernel_rfl) ?_)
      rw [← hy]
      clear hy hrg hpl
      have HFl : Hid (∀ b ∈ F2, b < wr.heap.size) := HR2.out.lt
      replace HB2 := uh (blw_trans HB2.out hby)
      replace HR2 := uh (HR2.out.later hby)
      have HZ0 : Hid (wr.heap.size ≤ y.heap.size ∧ W.heap.size ≤ y.heap.size) := ⟨hby.size, HB2.out.size⟩
      have HC := uh (copyGrantI g (some ⟨vb, 0, none⟩) g.rul.verbs.length y (hvR.later hby) hvn)
      clear hby hvR hvn H1
      have hgl := HG.out.lt
      have hga := HG.out.at_
      go_wp2_with (refine wpList_load_mid rfl 61 _ rfl wr.heap.size 0 rfl [.int .i64 g.num, .string g.to_, .string g.by_, .slice (some ⟨vb, 0, none⟩) g.rul.verbs.length g.rul.verbs.length, .string g.rul.kind, .string g.rul.team, .string g.rul.pre] _ hga Try.underlying61 rfl (by kernel_rfl) ?_)
      refine HC.out.mono ?_
      rintro e w1 ⟨cc, FV, rfl, rep, nd, fr, hb⟩
      obtain ⟨F3, v3, rfl, rfl, r3⟩ := repGateGrant rep
      obtain ⟨a1, m1, hv3⟩ := r3.raw.len0
      subst hv3
      have HFV : Hid ((F3 ++ []).Nodup ∧ ∀ b ∈ F3 ++ [], y.heap.size ≤ b) := ⟨nd, fr⟩
      have HRG := uh rep
      replace HB2 := uh (blw_trans HB2.out hb)
      replace HR2 := uh (HR2.out.later hb)
      have HZ1 : Hid (y.heap.size ≤ w1.heap.size) := hb.size
      clear hgl hga HC rep nd fr hb HG r3
      obtain ⟨wb, hwb⟩ : ∃ wb, wb = w1.alloc (.cells #[.int .i64 g.num, .string g.to_, .string g.by_, .slice a1 g.rul.verbs.length m1, .string g.rul.kind, .string g.rul.team, .string g.rul.pre] 61) := ⟨_, rfl⟩
      have hbb : Below w1.heap.size w1 wb := by rw [hwb]; exact blw_alloc (Below.refl _ _) _
      obtain ⟨v', x3, F4, row, hrun, rep, nd, hsub, hgr, hrow⟩ := rep_append (P := Try.prog) 28 28 61 7 112 _ Try.cunderGateGrant Try.cinfoGateGrant rfl (by decide) shGateGrant rfl wb (HR2.out.later hbb) HN2.out.1 (by omega) (F' := F3 ++ []) (d := eGn g) (c' := [.int .i64 g.num, .string g.to_, .string g.by_, .slice a1 g.rul.verbs.length m1, .string g.rul.kind, .string g.rul.team, .string g.rul.pre]) ⟨w1.heap.size, 0, none⟩ (HRG.out.later hbb) HFV.out.1 (fun b hb e => by have := HFV.out.2 b hb; have := HFl.out b e; have := HZ0.out.1; omega) (by rw [hwb]; exact news_new w1 #[.int .i64 g.num, .string g.to_, .string g.by_, .slice a1 g.rul.verbs.length m1, .string g.rul.kind, .string g.rul.team, .string g.rul.pre] 61)
      obtain ⟨wx, wc, hvx⟩ := rep.raw.len0
      subst hvx
      rw [hwb] at hrun
      have HB3 : Hid (Below W.heap.size W x3) := blw_grown (blw_trans HB2.out hbb) hgr (fun b e => HN2.out.2 b (hrow b e))
      have HS3 : Hid (∀ b ∈ F4, W.heap.size ≤ b) := fun b hb => by
        rcases hsub b hb with e | e | e
        · exact HN2.out.2 b e
        · have := HFV.out.2 b e; have := HZ0.out.2; omega
        · have := hbb.size; have := HZ1.out; have := HZ0.out; omega
      have HR4 : Hid (Rep x3 false [.row 61 shGateGrant] F4 [.row (q + 1) ((l.take (q + 1)).flatMap eGn)] [.slice wx (q + 1) wc]) := by
        show Rep _ _ _ _ _ _
        rw [take_fm eGn Gn.none l q hlt, ← HGG.out]
        exact rep
      have HN4 : Hid F4.Nodup := nd
      clear rep nd hsub hgr hrow hbb hwb
      go_wp2_with (at_builtin; refine Go.Lib.wpList_append_run _ rfl _ _ 28 28 rfl _ _ rfl rfl _ x3 hrun ?_)
      clear hrun HR2 HN2
      go_roundw
      case rel => exact ⟨q + 1, F4, by omega, by go_num, HR4.out, HN4.out, HS3.out, HB3.out⟩
      case measure => simp [intOf]; omega
    obtain rfl : q = l.length := by omega
    have hnlt : ¬ ((l.length : Int) < (l.length : Int)) := by omega
    have HR5 : Hid (Rep wr false [.row 61 shGateGrant] F2 [.row l.length (l.flatMap eGn)] [.slice va2 l.length vc2]) := by have := HR2.out; rw [List.take_length] at this; exact this
    go_wp2
    go_ret
    exact ⟨_, F2, rfl, HR5.out, HN2.out.1, HN2.out.2, HB2.out⟩

set_option maxRecDepth 8000 in
set_option maxHeartbeats 16000000 in
theorem hallFirstI (K : Hs) (c : List Value) (F : List Nat) (W : World) (hr : Rep W true shHallHouse F (eHs K) c) (hw : wtL (eHs K) ≤ 1048576) : Calls Try.prog 7 #[.agg c.toArray] W (Ans shHallBook (firstD K) W) := by
  obtain ⟨p0, p1, hc, hv⟩ := vHs hr hw
  obtain ⟨F0, v0, F1, v1, _, hc2, r0, r1⟩ := repHallHouse hr
  have hwg : K.grs.length + wtL (K.grs.flatMap eGn) ≤ 1048576 := by simp only [eHs, wtL] at hw; omega
  obtain ⟨p2, hp2, hG⟩ := vGnR r1 hwg
  subst hc
  have e2 : p1 = p2 := by
    injection hc2 with _ e2
    injection e2 with e2 _
    rw [hp2] at e2
    injection e2 with e2
    injection e2 with e2
    injection e2 with e2
  subst e2
  have HG := uh hG
  have HV := uh hv
  have hn := hG.len
  clear hr hw r0 r1 hwg hG hv hp2 hc2
  obtain ⟨wa, hwa⟩ : ∃ wa, wa = (W.alloc (.cells #[.slice (some ⟨p0, 0, none⟩) K.tms.length K.tms.length, .slice (some ⟨p1, 0, none⟩) K.grs.length K.grs.length] 43)).alloc (.cells #[.int .i64 0, .int .i64 0, .int .i64 0, .slice none 0 0, .slice none 0 0, .slice none 0 0, .slice none 0 0, .int .i64 0, .slice none 0 0, .slice none 0 0, .slice none 0 0] 39) := ⟨_, rfl⟩
  have HB : Hid (Below W.heap.size W wa) := by show Below _ _ _; rw [hwa]; exact blw_alloc (blw_alloc (Below.refl _ _) _) _
  have HX : Hid (LBox wa W.heap.size [.slice (some ⟨p0, 0, none⟩) K.tms.length K.tms.length, .slice (some ⟨p1, 0, none⟩) K.grs.length K.grs.length]) := by show LBox _ _ _; rw [hwa]; exact (LBox.new W #[.slice (some ⟨p0, 0, none⟩) K.tms.length K.tms.length, .slice (some ⟨p1, 0, none⟩) K.grs.length K.grs.length] _ _ rfl).later (blw_alloc (Below.refl _ _) _)
  have HO : Hid (OwnBlk wa (W.heap.size + 1) 39 11) := by show OwnBlk _ _ _ _; rw [hwa]; exact OwnBlk.alloc_at3 _ _ _ _ _ rfl (by simp)
  have HC := uh (hallHouseOkI K p0 p1 wa (HV.out.later HB.out))
  go_enter Try.func7, Try.ntmps7
  go_upto_region 1 with fail
  rw [← hwa]
  clear hwa
  have xz := HX.out.lt
  have xa := HX.out.at_
  go_wp2_with (refine wpList_load_mid rfl 43 _ rfl W.heap.size 0 rfl [.slice (some ⟨p0, 0, none⟩) K.tms.length K.tms.length, .slice (some ⟨p1, 0, none⟩) K.grs.length K.grs.length] _ xa Try.underlying43 rfl (by kernel_rfl) ?_)
  refine HC.out.mono ?_
  rintro e w1 ⟨rfl, hb⟩
  replace HB := uh (blw_trans HB.out hb)
  replace HX := uh (HX.out.later hb)
  replace HO := uh (HO.out.later hb)
  clear hb xz xa HC
  cases hok : houseOk K
  · have HE : Hid (firstD K = [.i 0, .i 0, .i 0, .row 0 [], .row 0 [], .row 0 [], .row 0 [], .i 0, .row 0 [], .row 0 [], .row 0 []]) := by show _ = _; unfold firstD; rw [hok]; rfl
    have hth : w1.there (W.heap.size + 1) 0 (#[.int .i64 0, .int .i64 0, .int .i64 0, .slice none 0 0, .slice none 0 0, .slice none 0 0, .slice none 0 0, .int .i64 0, .slice none 0 0, .slice none 0 0, .slice none 0 0] : Array Value).size := uthere HO.out _ _ (by simp)
    obtain ⟨we, hwe⟩ : ∃ we, we = w1.setCells (W.heap.size + 1) 0 [.int .i64 0, .int .i64 0, .int .i64 0, .slice none 0 0, .slice none 0 0, .slice none 0 0, .slice none 0 0, .int .i64 0, .slice none 0 0, .slice none 0 0, .slice none 0 0] := ⟨_, rfl⟩
    have hrt : we.rangeAt (W.heap.size + 1) 0 [.int .i64 0, .int .i64 0, .int .i64 0, .slice none 0 0, .slice none 0 0, .slice none 0 0, .slice none 0 0, .int .i64 0, .slice none 0 0, .slice none 0 0, .slice none 0 0] := by rw [hwe]; exact World.rangeAt_setCells_same _ _ _ _ hth
    have HMK : Hid (Marks (fun b => b = W.heap.size + 1) w1 we) := by show Marks _ _ _; rw [hwe]; exact mks_scs (S := fun b => b = W.heap.size + 1) rfl _ _ _
    have HBB : Hid (Below W.heap.size W we) := by show Below _ _ _; rw [hwe]; exact blw_scs (by omega) _ _ _ HB.out
    go_wp2_with (refine wpList_store_mid rfl 39 _ _ rfl (W.heap.size + 1) 0 #[.int .i64 0, .int .i64 0, .int .i64 0, .slice none 0 0, .slice none 0 0, .slice none 0 0, .slice none 0 0, .int .i64 0, .slice none 0 0, .slice none 0 0, .slice none 0 0] rfl rfl hth (by kernel_rfl) (by simp [Value.oneCell']) ?_)
    first | rw [← hwe] | (simp only [List.toList_toArray]; rw [← hwe])
    try simp only [Act.put]
    refine bodyPost_ret (v := .agg #[.int .i64 0, .int .i64 0, .int .i64 0, .slice none 0 0, .slice none 0 0, .slice none 0 0, .slice none 0 0, .int .i64 0, .slice none 0 0, .slice none 0 0, .slice none 0 0]) (by simp [results, Try.results7, asAddr, run_loadVar_mid (P := Try.prog) _ _ _ 39 [.int .i64 0, .int .i64 0, .int .i64 0, .slice none 0 0, .slice none 0 0, .slice none 0 0, .slice none 0 0, .int .i64 0, .slice none 0 0, .slice none 0 0, .slice none 0 0] _ hrt Try.underlying39 rfl (by kernel_rfl)]) rfl ?_
    have hnil : ∀ (t : TypeId) (sh : List Sh), Rep we false [.row t sh] [] [.row 0 []] [.slice none 0 0] := fun t sh => .emp _ _ _ rfl .nil
    rw [HE.out]
    refine ⟨[.int .i64 0, .int .i64 0, .int .i64 0, .slice none 0 0, .slice none 0 0, .slice none 0 0, .slice none 0 0, .int .i64 0, .slice none 0 0, .slice none 0 0, .slice none 0 0], _, rfl, repHallBook_mk _ _ _ (hnil _ _) (hnil _ _) (hnil _ _) (hnil _ _) _ (hnil _ _) (hnil _ _) (hnil _ _), by simp, fun b hb => ?_, HBB.out⟩
    simp at hb
  · have HE : Hid (firstD K = [.i (K.grs.length : Int), .i 0, .i (K.grs.length : Int), .row 0 [], .row K.grs.length (K.grs.flatMap eGn), .row 0 [], .row 0 [], .i 0, .row 0 [], .row 0 [], .row 0 []]) := by show _ = _; unfold firstD; rw [hok]; rfl
    have xz := HX.out.lt
    have x1 := HX.out.get 1 _ rfl
    have HZ : Hid (W.heap.size + 1 < w1.heap.size) := HO.out.lt
    go_wp2_with fail
    refine (copyGrantsI K.grs p1 w1 (HG.out.later HB.out)).mono ?_
    rintro e w2 ⟨v4, G4, rfl, r4, nd, fr, hb⟩
    obtain ⟨a4, m4, e4⟩ := r4.raw.len0
    subst e4
    have HND : Hid (G4.Nodup ∧ ∀ b ∈ G4, w1.heap.size ≤ b) := ⟨nd, fr⟩
    have R4 := uh r4
    replace HB := uh (blw_trans HB.out hb)
    replace HO := uh (HO.out.later hb)
    clear nd fr r4
    clear xz x1
    have hth : w2.there (W.heap.size + 1) 0 (#[.int .i64 (K.grs.length : Int), .int .i64 0, .int .i64 (K.grs.length : Int), .slice none 0 0, .slice a4 K.grs.length m4, .slice none 0 0, .slice none 0 0, .int .i64 0, .slice none 0 0, .slice none 0 0, .slice none 0 0] : Array Value).size := uthere HO.out _ _ (by simp)
    obtain ⟨we, hwe⟩ : ∃ we, we = w2.setCells (W.heap.size + 1) 0 [.int .i64 (K.grs.length : Int), .int .i64 0, .int .i64 (K.grs.length : Int), .slice none 0 0, .slice a4 K.grs.length m4, .slice none 0 0, .slice none 0 0, .int .i64 0, .slice none 0 0, .slice none 0 0, .slice none 0 0] := ⟨_, rfl⟩
    have hrt : we.rangeAt (W.heap.size + 1) 0 [.int .i64 (K.grs.length : Int), .int .i64 0, .int .i64 (K.grs.length : Int), .slice none 0 0, .slice a4 K.grs.length m4, .slice none 0 0, .slice none 0 0, .int .i64 0, .slice none 0 0, .slice none 0 0, .slice none 0 0] := by rw [hwe]; exact World.rangeAt_setCells_same _ _ _ _ hth
    have HMK : Hid (Marks (fun b => b = W.heap.size + 1) w2 we) := by show Marks _ _ _; rw [hwe]; exact mks_scs (S := fun b => b = W.heap.size + 1) rfl _ _ _
    have HBB : Hid (Below W.heap.size W we) := by show Below _ _ _; rw [hwe]; exact blw_scs (by omega) _ _ _ HB.out
    go_wp2_with (refine wpList_store_mid rfl 39 _ _ rfl (W.heap.size + 1) 0 #[.int .i64 (K.grs.length : Int), .int .i64 0, .int .i64 (K.grs.length : Int), .slice none 0 0, .slice a4 K.grs.length m4, .slice none 0 0, .slice none 0 0, .int .i64 0, .slice none 0 0, .slice none 0 0, .slice none 0 0] rfl rfl hth (by kernel_rfl) (by simp [Value.oneCell']) ?_)
    first | rw [← hwe] | (simp only [List.toList_toArray]; rw [← hwe])
    try simp only [Act.put]
    refine bodyPost_ret (v := .agg #[.int .i64 (K.grs.length : Int), .int .i64 0, .int .i64 (K.grs.length : Int), .slice none 0 0, .slice a4 K.grs.length m4, .slice none 0 0, .slice none 0 0, .int .i64 0, .slice none 0 0, .slice none 0 0, .slice none 0 0]) (by simp [results, Try.results7, asAddr, run_loadVar_mid (P := Try.prog) _ _ _ 39 [.int .i64 (K.grs.length : Int), .int .i64 0, .int .i64 (K.grs.length : Int), .slice none 0 0, .slice a4 K.grs.length m4, .slice none 0 0, .slice none 0 0, .int .i64 0, .slice none 0 0, .slice none 0 0, .slice none 0 0] _ hrt Try.underlying39 rfl (by kernel_rfl)]) rfl ?_
    have hnil : ∀ (t : TypeId) (sh : List Sh), Rep we false [.row t sh] [] [.row 0 []] [.slice none 0 0] := fun t sh => .emp _ _ _ rfl .nil
    rw [HE.out]
    refine ⟨[.int .i64 (K.grs.length : Int), .int .i64 0, .int .i64 (K.grs.length : Int), .slice none 0 0, .slice a4 K.grs.length m4, .slice none 0 0, .slice none 0 0, .int .i64 0, .slice none 0 0, .slice none 0 0, .slice none 0 0], _, rfl, repHallBook_mk _ _ _ (hnil _ _) (R4.out.keep HMK.out (fun b hb e => by have := HND.out.2 b hb; have := HZ.out; omega)) (hnil _ _) (hnil _ _) _ (hnil _ _) (hnil _ _) (hnil _ _), by simpa using HND.out.1, fun b hb => ?_, HBB.out⟩
    have hb2 := HND.out.2 b (by simpa using hb)
    have := HZ.out; omega
end Go.Proofs.Ytkehaeppnmlafaa
