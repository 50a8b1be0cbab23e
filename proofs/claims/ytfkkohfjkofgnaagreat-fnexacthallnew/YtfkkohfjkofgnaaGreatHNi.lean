/-
  The copy of a house: by the program.
-/
import Derived.Lib.AppendZerosOnto
import Derived.Test.YtfkkohfjkofgnaaGreatHKi
import Derived.Test.YtfkkohfjkofgnaaGreatHNp
namespace Go.Proofs.YtfkkohfjkofgnaaGreat
open Go.RowKit Go.Deep


set_option maxRecDepth 8000 in
set_option maxHeartbeats 8000000 in
/-- Room for n grants. -/
theorem growGn (n : Nat) (W : World) (hn : n ≤ 1048576) : Calls Tryz.prog 78 #[.slice none 0 0, .int .i64 n] W (AnsL [.row 74 shGateGrant] (.row 0 []) W) := by
  have h1 : ¬ ((n : Int) < 0) := by omega
  by_cases h0 : n = 0
  · subst h0
    go_enter Tryz.func78, Tryz.ntmps78
    go_wp2
    go_ret
    exact ⟨_, [], rfl, .emp _ _ _ rfl .nil, List.nodup_nil, by simp, Below.refl _ _⟩
  obtain ⟨i0, hi0, hzz⟩ := Option.map_eq_some_iff.1 Tryz.cinfoGateGrant
  simp only [Prod.mk.injEq] at hzz
  obtain ⟨hz, hs, hby⟩ := hzz
  have hrz : ∀ ty, (Builtin.append_ #[28, 3] ty #[.slice none 0 0, .int .i64 (n : Int)]).run Tryz.prog W = .ok (.slice (some ⟨W.heap.size, 0, none⟩) n (grownCap W n 0 74)) (W.drew.alloc (.cells ((#[] : Array Value) ++ Builtin.zeroCells #[.int .i64 0, .string ByteArray.empty, .string ByteArray.empty, .slice none 0 0, .string ByteArray.empty, .string ByteArray.empty, .string ByteArray.empty] n ++ Builtin.zeroCells #[.int .i64 0, .string ByteArray.empty, .string ByteArray.empty, .slice none 0 0, .string ByteArray.empty, .string ByteArray.empty, .string ByteArray.empty] (grownCap W n 0 74 - n)) 74)) := fun ty => by
    have := Lib.run_append_grow_zeros (P := Tryz.prog) W 28 3 ty 74 i0 _ .i64 .i64 Tryz.cunderGateGrant Tryz.underlying3 hi0 hz none 0 0 [] (run_firstCells_none W.drew i0.size 0 0 0) n (by omega) (by rw [hs]; decide) (by omega) (by omega) (by rw [hby]; omega) (growslice_fits (by omega) (by rw [hby]; omega))
    rw [Nat.zero_add] at this
    exact this
  have hG1 : n ≤ grownCap W n 0 74 := grownCap_ge W _ _ _
  have hG2 := grownCap_le_maxLen W n 0 74 (by unfold maxLen; omega)
  obtain ⟨G, hG⟩ : ∃ G, G = grownCap W n 0 74 := ⟨_, rfl⟩
  rw [← hG] at hrz hG1 hG2
  obtain ⟨cur, hcur⟩ : ∃ cur, cur = (#[] : Array Value) ++ Builtin.zeroCells #[.int .i64 0, .string ByteArray.empty, .string ByteArray.empty, .slice none 0 0, .string ByteArray.empty, .string ByteArray.empty, .string ByteArray.empty] n ++ Builtin.zeroCells #[.int .i64 0, .string ByteArray.empty, .string ByteArray.empty, .slice none 0 0, .string ByteArray.empty, .string ByteArray.empty, .string ByteArray.empty] (G - n) := ⟨_, rfl⟩
  have hcs : cur.size = G * 7 := by rw [hcur, Array.size_append, Array.size_append, size_zeroCells, size_zeroCells]; simp; omega
  rw [← hcur] at hrz
  clear hcur hG
  obtain ⟨w1, hw1⟩ : ∃ w1, w1 = W.drew.alloc (.cells cur 74) := ⟨_, rfl⟩
  have HB : Hid (Below W.heap.size W w1) := by show Below _ _ _; rw [hw1]; exact blw_alloc (Below.drew (Below.refl _ _)) _
  have HO : Hid (OwnBlk w1 W.heap.size 74 (G * 7)) := by show OwnBlk _ _ _ _; rw [hw1]; exact ⟨cur, heap_alloc_new W.drew _, hcs⟩
  rw [← hw1] at hrz
  unfold maxLen at hG2
  have hg0 : (0 : Int) < (n : Int) := by omega
  clear hw1 hcs
  go_enter Tryz.func78, Tryz.ntmps78
  go_wp2_with (at_builtin; refine Lib.wpList_append_run _ rfl _ _ 28 3 rfl _ _ rfl rfl _ w1 (hrz _) ?_)
  all_goals (go_ret; exact ⟨_, [W.heap.size], rfl, .row _ _ W.heap.size 0 0 G 74 (G * 7) [] [] [] HO.out (by simp) (by simp) ⟨by omega, by omega⟩ (rA_nil _ _ _) .nil .nil, by simp, by simp, HB.out⟩)

set_option maxRecDepth 8000 in
set_option maxHeartbeats 16000000 in
theorem copyGrantsI (l : List Gn) (p : Nat) (W : World) (h : GnsR W p l) :
    Calls Tryz.prog 50 #[.slice (some ⟨p, 0, none⟩) l.length l.length, .func (.func 51) #[] #[]] W (AnsL [.row 74 shGateGrant] (.row l.length (l.flatMap eGn)) W) := by
  have HH := uh h
  have hl := h.len
  clear h
  go_enter Tryz.func50, Tryz.ntmps50
  go_wp2_with fail
  refine (growGn l.length W hl).mono ?_
  rintro e w0 ⟨v, F, rfl, r, nd, fr, hb⟩
  obtain ⟨va, vc, hva⟩ := r.raw.len0
  subst hva
  have HR := uh r
  have HN := uh (And.intro nd fr)
  have HB := uh hb
  clear r nd fr hb
  go_wp2
  go_loopw [5, 13] (fun vv i wr => ∃ (q : Nat) (F : List Nat), q ≤ l.length ∧ i = .int .i64 q ∧ Rep wr false [.row 74 shGateGrant] F [.row q ((l.take q).flatMap eGn)] [vv] ∧ F.Nodup ∧ (∀ b ∈ F, W.heap.size ≤ b) ∧ Below W.heap.size W wr) (fun _ i _ => l.length - (intOf i).toNat)
  case atStart => exact ⟨0, F, Nat.zero_le _, rfl, HR.out, HN.out.1, HN.out.2, HB.out⟩
  case round =>
    obtain ⟨q, F2, hq, rfl, hR, hN, hF, hB⟩ := hrel
    have HR2 := uh hR
    have HN2 := uh (And.intro hN hF)
    have HB2 := uh hB
    obtain ⟨va2, vc2, hva⟩ := hR.raw.len0
    subst hva
    clear hR hN hF hB HR HN HB
    by_cases hlt : q < l.length
    · have H1 := uh (HH.out.later HB2.out)
      obtain ⟨g, hg⟩ : ∃ g : Gn, g = l.getD q Gn.none := ⟨_, rfl⟩
      obtain ⟨vb, hrg, hvR, hvn⟩ := H1.out.at_ q hlt
      rw [← hg] at hrg hvR hvn
      have hpl := H1.out.lt
      obtain ⟨y, hy⟩ : ∃ y, y = wr.alloc (.cells #[.int .i64 g.num, .string g.to_, .string g.by_, .slice (some ⟨vb, 0, none⟩) g.rul.verbs.length g.rul.verbs.length, .string g.rul.kind, .string g.rul.team, .string g.rul.pre] 74) := ⟨_, rfl⟩
      have hby : Below wr.heap.size wr y := by rw [hy]; exact blw_alloc (Below.refl _ _) _
      have HG : Hid (LBox y wr.heap.size [.int .i64 g.num, .string g.to_, .string g.by_, .slice (some ⟨vb, 0, none⟩) g.rul.verbs.length g.rul.verbs.length, .string g.rul.kind, .string g.rul.team, .string g.rul.pre]) := by show LBox _ _ _; rw [hy]; exact LBox.new _ #[.int .i64 g.num, .string g.to_, .string g.by_, .slice (some ⟨vb, 0, none⟩) g.rul.verbs.length g.rul.verbs.length, .string g.rul.kind, .string g.rul.team, .string g.rul.pre] _ _ rfl
      have HGG := uh hg
      clear hg
      have hm0 : (0 : Int) ≤ (q : Int) := by omega
      have hm3 : (q : Int) < (l.length : Int) := by omega
      go_upto_region 5 with (refine wpList_load_mid rfl 74 _ rfl p (q * 7) rfl [.int .i64 g.num, .string g.to_, .string g.by_, .slice (some ⟨vb, 0, none⟩) g.rul.verbs.length g.rul.verbs.length, .string g.rul.kind, .string g.rul.team, .string g.rul.pre] _ hrg Tryz.underlying74 rfl (by kernel_rfl) ?_)
      rw [← hy]
      clear hy hrg hpl
      have HFl : Hid (∀ b ∈ F2, b < wr.heap.size) := HR2.out.lt
      replace HB2 := uh (blw_trans HB2.out hby)
      replace HR2 := uh (HR2.out.later hby)
      have HZ0 : Hid (wr.heap.size ≤ y.heap.size ∧ W.heap.size ≤ y.heap.size) := ⟨hby.size, HB2.out.size⟩
      have HC := uh (copyGrantI g (some ⟨vb, 0, none⟩) g.rul.verbs.length y (hvR.later hby) hvn)
      clear hby hvR hvn H1
      have hgl := HG.out.lt
      have hga := HG.out.at_
      go_wp2_with (refine wpList_load_mid rfl 74 _ rfl wr.heap.size 0 rfl [.int .i64 g.num, .string g.to_, .string g.by_, .slice (some ⟨vb, 0, none⟩) g.rul.verbs.length g.rul.verbs.length, .string g.rul.kind, .string g.rul.team, .string g.rul.pre] _ hga Tryz.underlying74 rfl (by kernel_rfl) ?_)
      refine HC.out.mono ?_
      rintro e w1 ⟨cc, FV, rfl, rep, nd, fr, hb⟩
      obtain ⟨F3, v3, rfl, rfl, r3⟩ := repGateGrant rep
      obtain ⟨a1, m1, hv3⟩ := r3.raw.len0
      subst hv3
      have HFV : Hid ((F3 ++ []).Nodup ∧ ∀ b ∈ F3 ++ [], y.heap.size ≤ b) := ⟨nd, fr⟩
      have HRG := uh rep
      replace HB2 := uh (blw_trans HB2.out hb)
      replace HR2 := uh (HR2.out.later hb)
      have HZ1 : Hid (y.heap.size ≤ w1.heap.size) := hb.size
      clear hgl hga HC rep nd fr hb HG r3
      obtain ⟨wb, hwb⟩ : ∃ wb, wb = w1.alloc (.cells #[.int .i64 g.num, .string g.to_, .string g.by_, .slice a1 g.rul.verbs.length m1, .string g.rul.kind, .string g.rul.team, .string g.rul.pre] 74) := ⟨_, rfl⟩
      have hbb : Below w1.heap.size w1 wb := by rw [hwb]; exact blw_alloc (Below.refl _ _) _
      obtain ⟨v', x3, F4, row, hrun, rep, nd, hsub, hgr, hrow⟩ := rep_append (P := Tryz.prog) 28 28 74 7 112 _ Tryz.cunderGateGrant Tryz.cinfoGateGrant rfl (by decide) shGateGrant rfl wb (HR2.out.later hbb) HN2.out.1 (by omega) (F' := F3 ++ []) (d := eGn g) (c' := [.int .i64 g.num, .string g.to_, .string g.by_, .slice a1 g.rul.verbs.length m1, .string g.rul.kind, .string g.rul.team, .string g.rul.pre]) ⟨w1.heap.size, 0, none⟩ (HRG.out.later hbb) HFV.out.1 (fun b hb e => by have := HFV.out.2 b hb; have := HFl.out b e; have := HZ0.out.1; omega) (by rw [hwb]; exact news_new w1 #[.int .i64 g.num, .string g.to_, .string g.by_, .slice a1 g.rul.verbs.length m1, .string g.rul.kind, .string g.rul.team, .string g.rul.pre] 74)
      obtain ⟨wx, wc, hvx⟩ := rep.raw.len0
      subst hvx
      rw [hwb] at hrun
      have HB3 : Hid (Below W.heap.size W x3) := blw_grown (blw_trans HB2.out hbb) hgr (fun b e => HN2.out.2 b (hrow b e))
      have HS3 : Hid (∀ b ∈ F4, W.heap.size ≤ b) := fun b hb => by
        rcases hsub b hb with e | e | e
        · exact HN2.out.2 b e
        · have := HFV.out.2 b e; have := HZ0.out.2; omega
        · have := hbb.size; have := HZ1.out; have := HZ0.out; omega
      have HR4 : Hid (Rep x3 false [.row 74 shGateGrant] F4 [.row (q + 1) ((l.take (q + 1)).flatMap eGn)] [.slice wx (q + 1) wc]) := by
        show Rep _ _ _ _ _ _
        rw [take_fm eGn Gn.none l q hlt, ← HGG.out]
        exact rep
      have HN4 : Hid F4.Nodup := nd
      clear rep nd hsub hgr hrow hbb hwb
      go_wp2_with (at_builtin; refine Go.Lib.wpList_append_run _ rfl _ _ 28 28 rfl _ _ rfl rfl _ x3 hrun ?_)
      clear hrun HR2 HN2
      go_roundw
      case rel => exact ⟨q + 1, F4, by omega, by go_num, HR4.out, HN4.out, HS3.out, HB3.out⟩
      case measure => simp [intOf]; omega
    obtain rfl : q = l.length := by omega
    have hnlt : ¬ ((l.length : Int) < (l.length : Int)) := by omega
    have HR5 : Hid (Rep wr false [.row 74 shGateGrant] F2 [.row l.length (l.flatMap eGn)] [.slice va2 l.length vc2]) := by have := HR2.out; rw [List.take_length] at this; exact this
    go_wp2
    go_ret
    exact ⟨_, F2, rfl, HR5.out, HN2.out.1, HN2.out.2, HB2.out⟩

end Go.Proofs.YtfkkohfjkofgnaaGreat

namespace Go.Proofs.YtfkkohfjkofgnaaGreat
open Go.RowKit Go.Deep


def VCp (K : Hs) (p0 p1 B : Nat) (i : Nat) (u : Value) (X : World) (lo hi : Nat) : Prop :=
  match i with
  | 0 => u = .pointer (some ⟨B, 0, none⟩)
  | 1 => u = .slice (some ⟨p0, 0, none⟩) K.tms.length K.tms.length
  | 2 => ∃ v F, u = v ∧ Rep X false [.row 86 shGateTeam] F [(.row K.tms.length (K.tms.flatMap eTm))] [v] ∧ F.Nodup ∧ ∀ b ∈ F, lo ≤ b ∧ b < hi
  | 3 => u = .pointer (some ⟨B, 1, none⟩)
  | 4 => u = .slice (some ⟨p1, 0, none⟩) K.grs.length K.grs.length
  | 5 => ∃ v F, u = v ∧ Rep X false [.row 74 shGateGrant] F [(.row K.grs.length (K.grs.flatMap eGn))] [v] ∧ F.Nodup ∧ ∀ b ∈ F, lo ≤ b ∧ b < hi
  | _ => True
theorem VCp_mono (K : Hs) (p0 p1 B : Nat) : ∀ j u X X' lo hi, Below X.heap.size X X' → VCp K p0 p1 B j u X lo hi → VCp K p0 p1 B j u X' lo hi := by
  intro j u X X' lo hi hb h
  match j, h with
  | 0, h => exact h
  | 1, h => exact h
  | 2, h => obtain ⟨c, F, h1, h2, h3, h4⟩ := h; exact ⟨c, F, h1, h2.later hb, h3, h4⟩
  | 3, h => exact h
  | 4, h => exact h
  | 5, h => obtain ⟨c, F, h1, h2, h3, h4⟩ := h; exact ⟨c, F, h1, h2.later hb, h3, h4⟩
  | _ + 6, _ => trivial

def bCp (f : Nat → Value) : Value := .agg #[f 2, f 5]
def KCp (K : Hs) (base : World) (p : Nat) (X : World) : Prop := ∃ v2 v5 F, X.rangeAt p 0 [v2, v5] ∧ Rep X false shHallHouse F (eHs K) [v2, v5] ∧ F.Nodup ∧ (∀ b ∈ F, base.heap.size ≤ b) ∧ Below base.heap.size base X
set_option maxRecDepth 8000 in
set_option maxHeartbeats 16000000 in
theorem hallCopyHouseI (K : Hs) (p0 p1 : Nat) (W : World) (h : HsR W p0 p1 K) :
    Calls Tryz.prog 23 #[.agg #[.slice (some ⟨p0, 0, none⟩) K.tms.length K.tms.length, .slice (some ⟨p1, 0, none⟩) K.grs.length K.grs.length]] W (Ans shHallHouse (eHs K) W) := by
  have HH := uh h
  have hl := h.g.len
  have hn := h.n
  clear h
  obtain ⟨wa, hwa⟩ : ∃ wa, wa = (W.alloc (.cells #[.slice (some ⟨p0, 0, none⟩) K.tms.length K.tms.length, .slice (some ⟨p1, 0, none⟩) K.grs.length K.grs.length] 30)).alloc (.cells #[.slice none 0 0, .slice none 0 0] 30) := ⟨_, rfl⟩
  have HB : Hid (Below W.heap.size W wa) := by show Below _ _ _; rw [hwa]; exact blw_alloc (blw_alloc (Below.refl _ _) _) _
  have HX : Hid (LBox wa W.heap.size [.slice (some ⟨p0, 0, none⟩) K.tms.length K.tms.length, .slice (some ⟨p1, 0, none⟩) K.grs.length K.grs.length]) := by show LBox _ _ _; rw [hwa]; exact (LBox.new W #[.slice (some ⟨p0, 0, none⟩) K.tms.length K.tms.length, .slice (some ⟨p1, 0, none⟩) K.grs.length K.grs.length] _ _ rfl).later (blw_alloc (Below.refl _ _) _)
  have HO : Hid (OwnBlk wa (W.heap.size + 1) 30 2) := by show OwnBlk _ _ _ _; rw [hwa]; exact OwnBlk.alloc_at3 _ _ _ _ _ rfl (by simp)
  have HS1 : Hid (W.heap.size + 1 < wa.heap.size) := HO.out.lt
  go_enter Tryz.func23, Tryz.ntmps23
  go_upto_region 1 with fail
  rw [← hwa]
  clear hwa
  refine RY.region_mk wa (Below.refl _ _) (VCp K p0 p1 W.heap.size) (VCp_mono K p0 p1 W.heap.size) bCp [2, 5] ?_ (fun _ X => KCp K W (W.heap.size + 1) X) 6 9 6 (by kernel_rfl) (by kernel_rfl) (by kernel_rfl) (by kernel_rfl) rfl (by kernel_rfl) (by kernel_rfl) _ _ rfl rfl rfl rfl (by kernel_rfl) (by kernel_rfl) ?_ ?_ ?_ ?_
  · intro f g hfg
    unfold bCp
    rw [hfg 2 (by simp), hfg 5 (by simp)]
  · intro i o ho hin a X hX hk hd
    have hx := HX.out.later hX
    have xz := hx.lt
    have y0 := hx.get 0 _ rfl
    have y1 := hx.get 1 _ rfl
    have t1 : a.tmps[1]?.getD undef = .pointer (some ⟨W.heap.size, 0, none⟩) := (RY.ev_tmp a 1).trans ((hk 1 (by kernel_rfl)).trans rfl)
    match i, ho with
    | 0, ho =>
      injection ho with ho; subst ho
      exact Or.inl ⟨_, X, by simp [execOp, go_sem, t1], Below.refl _ _, rfl⟩
    | 1, ho =>
      injection ho with ho; subst ho
      have e0 : a.tmps[3]?.getD undef = _ := (RY.ev_tmp a 3).trans ((hd 0 _ 3 rfl rfl ⟨⟨0, .data⟩, by simp, rfl, rfl⟩ (by decide)).elim fun _ h => h.elim fun _ h => h)
      exact Or.inl ⟨_, X, by simp [execOp, go_sem, e0, y0], Below.refl _ _, rfl⟩
    | 2, ho =>
      injection ho with ho; subst ho
      have e0 : a.eval (.tmp 4) = _ := (hd 1 _ 4 rfl rfl ⟨⟨1, .data⟩, by simp, rfl, rfl⟩ (by decide)).elim fun _ h => h.elim fun _ h => h
      obtain ⟨v', X1, xs, hrun, hg, hb⟩ := app_copy (P := Tryz.prog) X.heap.size 27 27 86 86 2 32 _ Tryz.cunderGateTeam Tryz.cinfoGateTeam rfl (by decide) (by decide) shGateTeam rfl (by simp [flatB]) X (.slice none 0 0) (Or.inl rfl) (Nat.le_refl _) K.tms.length (K.tms.flatMap eTm) (.slice (some ⟨p0, 0, none⟩) K.tms.length K.tms.length) (HH.out.t.later (blw_trans HB.out hX)) (by omega)
      obtain ⟨F, rT, nd, fr⟩ := hg.done
      exact Or.inl ⟨v', X1, uexec_append (.const (.slice none 0 0)) (.tmp 4) 27 rfl rfl e0 hrun, hb, v', F, rfl, rT, nd, fun b hb => ⟨fr b hb, rT.lt b hb⟩⟩
    | 3, ho =>
      injection ho with ho; subst ho
      exact Or.inl ⟨_, X, by simp [execOp, go_sem, t1], Below.refl _ _, rfl⟩
    | 4, ho =>
      injection ho with ho; subst ho
      have e0 : a.tmps[6]?.getD undef = _ := (RY.ev_tmp a 6).trans ((hd 3 _ 6 rfl rfl ⟨⟨3, .data⟩, by simp, rfl, rfl⟩ (by decide)).elim fun _ h => h.elim fun _ h => h)
      exact Or.inl ⟨_, X, by simp [execOp, go_sem, e0, y1], Below.refl _ _, rfl⟩
    | 5, ho =>
      injection ho with ho; subst ho
      have e0 : a.tmps[7]?.getD undef = _ := (RY.ev_tmp a 7).trans ((hd 4 _ 7 rfl rfl ⟨⟨4, .data⟩, by simp, rfl, rfl⟩ (by decide)).elim fun _ h => h.elim fun _ h => h)
      refine Or.inr ⟨50, #[.slice (some ⟨p1, 0, none⟩) K.grs.length K.grs.length, .func (.func 51) #[] #[]], by simp [go_sem, e0], (copyGrantsI K.grs p1 X (HH.out.g.later (blw_trans HB.out hX))).mono ?_⟩
      rintro e X' ⟨v, F, rfl, hr, nd, fr, hb⟩
      exact ⟨_, rfl, hb, v, F, rfl, hr, nd, fun b hb => ⟨fr b hb, hr.lt b hb⟩⟩
    | n + 6, ho => omega
  · intro a X vals hX hk hd
    obtain ⟨e2, _, _, v2, F2, q2, r2, _⟩ := hd 2 _ 5 rfl rfl ⟨⟨2, .data⟩, by simp, rfl, rfl⟩ (by decide)
    obtain ⟨e5, _, _, v5, F5, q5, r5, _⟩ := hd 5 _ 8 rfl rfl ⟨⟨5, .data⟩, by simp, rfl, rfl⟩ (by decide)
    obtain ⟨x2, y2, rfl⟩ := r2.raw.len0
    obtain ⟨x5, y5, rfl⟩ := r5.raw.len0
    have q2 : vals 2 = _ := q2
    have q5 : vals 5 = _ := q5
    rw [← RY.ev_tmp, q2] at e2
    rw [← RY.ev_tmp, q5] at e5
    unfold bCp
    rw [q2, q5]
    simp [execOp, go_sem, e2, e5]
  · intro a X vals lo hi hX hk hV hdj hb
    obtain ⟨l2, _, v2, F2, q2, r2, n2, f2⟩ := hV 2 (by decide)
    obtain ⟨l5, _, v5, F5, q5, r5, n5, f5⟩ := hV 5 (by decide)
    have q2 : vals 2 = _ := q2
    have q5 : vals 5 = _ := q5
    have hbf : bCp vals = .agg ([v2, v5] : List Value).toArray := by unfold bCp; rw [q2, q5]
    have hown := HO.out.later hX
    have hth : X.there (W.heap.size + 1) 0 2 := uthere hown _ _ (by omega)
    have t2 : a.eval (.tmp 2) = .pointer (some ⟨W.heap.size + 1, 0, none⟩) := (hk 2 (by kernel_rfl)).trans rfl
    obtain ⟨x2, y2, hx2⟩ := r2.raw.len0
    obtain ⟨x5, y5, hx5⟩ := r5.raw.len0
    refine ⟨X.setCells (W.heap.size + 1) 0 [v2, v5], ?_, ?_⟩
    · exact RY.exec_store_mid _ _ _ rfl t2 (hb.trans hbf) hth (by kernel_rfl) (by rw [hx2, hx5]; simp [Value.oneCell'])
    · have hM : Marks (fun b => b = W.heap.size + 1) X (X.setCells (W.heap.size + 1) 0 [v2, v5]) := mks_scs (S := fun b => b = W.heap.size + 1) rfl _ _ _
      have h1 := HS1.out
      refine ⟨v2, v5, _, World.rangeAt_setCells_same _ _ _ _ hth, repHallHouse_mk (r2.keep hM (fun b hb' e => by have := f2 b hb'; omega)) (r5.keep hM (fun b hb' e => by have := f5 b hb'; omega)), ?_, ?_, ?_⟩
      · rw [List.append_nil, List.nodup_append]
        refine ⟨n2, n5, fun x hx y hy e => ?_⟩
        have := f2 x hx; have := f5 y hy; have := hdj 2 5 (by decide) (by decide) (by decide); omega
      · have h1 := HB.out.size
        intro b q
        rw [List.append_nil] at q
        rcases List.mem_append.1 q with q | q
        · have := f2 b q; omega
        · have := f5 b q; omega
      · exact hM.below (fun b e => by rw [e]; omega) (blw_trans HB.out hX)
  · rintro vals vs X ⟨v2, v5, F, hrt, rp, nd, fr, bel⟩ hvs
    simp only [RY.putAll, Act.put, List.setIfInBounds_toArray, List.set_cons_zero, List.set_cons_succ]
    have HEND := uh (And.intro rp (And.intro nd (And.intro fr bel)))
    clear rp nd fr bel hvs
    generalize vs 3 = s3
    generalize vs 4 = s4
    generalize vs 5 = s5
    generalize vs 6 = s6
    generalize vs 7 = s7
    generalize vs 8 = s8
    generalize vs 9 = s9
    go_wp2
    refine bodyPost_ret (v := .agg #[v2, v5]) (by simp [results, Tryz.results23, asAddr, run_loadVar_mid (P := Tryz.prog) _ _ _ 30 [v2, v5] _ hrt Tryz.underlying30 rfl (by kernel_rfl)]) rfl ⟨[v2, v5], F, rfl, HEND.out.1, HEND.out.2.1, HEND.out.2.2.1, HEND.out.2.2.2⟩
end Go.Proofs.YtfkkohfjkofgnaaGreat
