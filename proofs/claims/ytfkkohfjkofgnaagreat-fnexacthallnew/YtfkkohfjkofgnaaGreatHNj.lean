/-
  HallNew by the program.
-/
import Derived.Test.YtfkkohfjkofgnaaGreatHNi
import Derived.Test.YtfkkohfjkofgnaaGreatHKi
import Derived.Test.YtfkkohfjkofgnaaGreatKNx
namespace Go.Proofs.YtfkkohfjkofgnaaGreat
open Go.RowKit Go.Deep


def VNw (K : Hs) (p0 p1 : Nat) (rc : Array Value) (i : Nat) (u : Value) (X : World) (lo hi : Nat) : Prop :=
  match i with
  | 0 => u = .agg #[.slice (some ⟨p0, 0, none⟩) K.tms.length K.tms.length, .slice (some ⟨p1, 0, none⟩) K.grs.length K.grs.length]
  | 1 => ∃ c F, u = .agg c.toArray ∧ Rep X false shHallHouse F (eHs K) c ∧ F.Nodup ∧ ∀ b ∈ F, lo ≤ b ∧ b < hi
  | 2 => u = .agg rc
  | _ => True
theorem VNw_mono (K : Hs) (p0 p1 : Nat) (rc : Array Value) : ∀ j u X X' lo hi, Below X.heap.size X X' → VNw K p0 p1 rc j u X lo hi → VNw K p0 p1 rc j u X' lo hi := by
  intro j u X X' lo hi hb h
  match j, h with
  | 0, h => exact h
  | 1, h => obtain ⟨c, F, h1, h2, h3, h4⟩ := h; exact ⟨c, F, h1, h2.later hb, h3, h4⟩
  | 2, h => exact h
  | _ + 3, _ => trivial

def bNw (f : Nat → Value) : Value := .agg ((f 1).cells ++ (f 2).cells ++ #[.int .i64 0, .slice none 0 0])
def KNwr (A : List Dt) (base : World) (p : Nat) (X : World) : Prop := ∃ c F, X.rangeAt p 0 c ∧ Rep X false shHallWorld F A c ∧ F.Nodup ∧ (∀ b ∈ F, base.heap.size ≤ b) ∧ Below base.heap.size base X
set_option maxRecDepth 8000 in
set_option maxHeartbeats 16000000 in
theorem hallNewI (K : Hs) (n : Int) (c : List Value) (F : List Nat) (W : World) (hr : Rep W true shHallHouse F (eHs K) c) (hw : wtL (eHs K) ≤ 1048576) : Calls Tryz.prog 7 #[.agg c.toArray, .int .i64 n] W (Ans shHallWorld (nwD K n) W) := by
  obtain ⟨p0, p1, hc, hv⟩ := hsR hr hw
  subst hc
  have HV := uh hv
  clear hr hw hv
  obtain ⟨wa, hwa⟩ : ∃ wa, wa = (W.alloc (.cells #[.slice (some ⟨p0, 0, none⟩) K.tms.length K.tms.length, .slice (some ⟨p1, 0, none⟩) K.grs.length K.grs.length] 30)).alloc (.cells #[.slice none 0 0, .slice none 0 0, .slice none 0 0, .slice none 0 0, .slice none 0 0, .int .i64 0, .slice none 0 0] 38) := ⟨_, rfl⟩
  have HB : Hid (Below W.heap.size W wa) := by show Below _ _ _; rw [hwa]; exact blw_alloc (blw_alloc (Below.refl _ _) _) _
  have HX : Hid (LBox wa W.heap.size [.slice (some ⟨p0, 0, none⟩) K.tms.length K.tms.length, .slice (some ⟨p1, 0, none⟩) K.grs.length K.grs.length]) := by show LBox _ _ _; rw [hwa]; exact (LBox.new W #[.slice (some ⟨p0, 0, none⟩) K.tms.length K.tms.length, .slice (some ⟨p1, 0, none⟩) K.grs.length K.grs.length] _ _ rfl).later (blw_alloc (Below.refl _ _) _)
  have HO : Hid (OwnBlk wa (W.heap.size + 1) 38 7) := by show OwnBlk _ _ _ _; rw [hwa]; exact OwnBlk.alloc_at3 _ _ _ _ _ rfl (by simp)
  go_enter Tryz.func7, Tryz.ntmps7
  go_upto_region 1 with fail
  rw [← hwa]
  clear hwa
  have HC := uh (recNewWorldI n wa)
  have HS1 : Hid (W.heap.size + 1 < wa.heap.size) := HO.out.lt
  go_wp2_with fail
  refine HC.out.mono ?_
  rintro e w0 ⟨cc, FF, rfl, rep, nd, fr, hb⟩
  obtain ⟨nn, es, hnw, hnn⟩ : ∃ nn es, newW n = [.row nn es, .row 0 [], .row 0 []] ∧ ((inB n 1 5 = true ∧ nn = n.toNat ∧ es = newRow n n.toNat ∧ ¬ ((nn : Int) = 0)) ∨ (inB n 1 5 = false ∧ nn = 0)) := by
    unfold newW
    cases hin : inB n 1 5
    · exact ⟨0, [], rfl, Or.inr ⟨rfl, rfl⟩⟩
    · refine ⟨_, _, rfl, Or.inl ⟨rfl, rfl, rfl, ?_⟩⟩
      simp only [inB, Bool.and_eq_true, decide_eq_true_eq] at hin
      omega
  rw [hnw] at rep
  obtain ⟨G2, v2, G3, v3, G4, v4, hFF, rfl, r2, r3, r4⟩ := repRecWorld rep
  obtain ⟨a2, m2, e2⟩ := r2.raw.len0
  obtain ⟨a3, m3, e3⟩ := r3.raw.len0
  obtain ⟨a4, m4, e4⟩ := r4.raw.len0
  subst e2
  subst e3
  subst e4
  have HNR : Hid ((G2 ++ (G3 ++ G4)).Nodup ∧ ∀ b ∈ G2 ++ (G3 ++ G4), wa.heap.size ≤ b ∧ b < w0.heap.size) := by rw [hFF, List.append_nil] at nd fr; exact ⟨nd, fun b hb => ⟨fr b hb, rep.lt b (by rw [hFF, List.append_nil]; exact hb)⟩⟩
  have R2 := uh r2
  have R3 := uh r3
  have R4 := uh r4
  have HNN := uh hnn
  replace HB := uh (blw_trans HB.out hb)
  replace HX := uh (HX.out.later hb)
  replace HO := uh (HO.out.later hb)
  have HSW : Hid (wa.heap.size ≤ w0.heap.size) := hb.size
  clear rep nd fr r2 r3 r4 hFF hb HC hnw hnn
  obtain ⟨wb, hwb⟩ : ∃ wb, wb = w0.alloc (.cells #[.slice a2 nn m2, .slice a3 0 m3, .slice a4 0 m4] 35) := ⟨_, rfl⟩
  have hbb : Below w0.heap.size w0 wb := by rw [hwb]; exact blw_alloc (Below.refl _ _) _
  have HRB : Hid (LBox wb w0.heap.size [.slice a2 nn m2, .slice a3 0 m3, .slice a4 0 m4]) := by show LBox _ _ _; rw [hwb]; exact LBox.new _ #[.slice a2 nn m2, .slice a3 0 m3, .slice a4 0 m4] _ _ rfl
  have xz := HX.out.lt
  go_upto_region 2 with fail
  rw [← hwb]
  clear hwb xz
  replace HB := uh (blw_trans HB.out hbb)
  replace HX := uh (HX.out.later hbb)
  replace HO := uh (HO.out.later hbb)
  replace R2 := uh (R2.out.later hbb)
  replace R3 := uh (R3.out.later hbb)
  replace R4 := uh (R4.out.later hbb)
  clear hbb
  obtain ⟨pr, hpr⟩ : ∃ pr, pr = w0.heap.size := ⟨_, rfl⟩
  have HPR : Hid (wa.heap.size ≤ pr ∧ pr < wb.heap.size ∧ ∀ b ∈ G2 ++ (G3 ++ G4), wa.heap.size ≤ b ∧ b < pr) := by rw [hpr]; exact ⟨HSW.out, HRB.out.lt, HNR.out.2⟩
  rw [← hpr] at HRB ⊢
  clear hpr HSW
  have HC := uh (hallHouseOkI K p0 p1 wb (HV.out.v.later HB.out))
  have xz := HX.out.lt
  have xa := HX.out.at_
  go_wp2_with (refine wpList_load_mid rfl 30 _ rfl W.heap.size 0 rfl [.slice (some ⟨p0, 0, none⟩) K.tms.length K.tms.length, .slice (some ⟨p1, 0, none⟩) K.grs.length K.grs.length] _ xa Tryz.underlying30 rfl (by kernel_rfl) ?_)
  refine HC.out.mono ?_
  rintro e w1 ⟨rfl, hb⟩
  replace HB := uh (blw_trans HB.out hb)
  replace HX := uh (HX.out.later hb)
  replace HO := uh (HO.out.later hb)
  replace HRB := uh (HRB.out.later hb)
  replace R2 := uh (R2.out.later hb)
  replace R3 := uh (R3.out.later hb)
  replace R4 := uh (R4.out.later hb)
  have HSB : Hid (wb.heap.size ≤ w1.heap.size) := hb.size
  clear hb xz xa HC
  cases hok : houseOk K
  · have HE : Hid (nwD K n = nwZ) := by show _ = _; unfold nwD; rw [hok]; rfl
    have hth : w1.there (W.heap.size + 1) 0 (#[.slice none 0 0, .slice none 0 0, .slice none 0 0, .slice none 0 0, .slice none 0 0, .int .i64 0, .slice none 0 0] : Array Value).size := uthere HO.out _ _ (by simp)
    obtain ⟨we, hwe⟩ : ∃ we, we = w1.setCells (W.heap.size + 1) 0 [.slice none 0 0, .slice none 0 0, .slice none 0 0, .slice none 0 0, .slice none 0 0, .int .i64 0, .slice none 0 0] := ⟨_, rfl⟩
    have hrt : we.rangeAt (W.heap.size + 1) 0 [.slice none 0 0, .slice none 0 0, .slice none 0 0, .slice none 0 0, .slice none 0 0, .int .i64 0, .slice none 0 0] := by rw [hwe]; exact World.rangeAt_setCells_same _ _ _ _ hth
    have HMK : Hid (Marks (fun b => b = W.heap.size + 1) w1 we) := by show Marks _ _ _; rw [hwe]; exact mks_scs (S := fun b => b = W.heap.size + 1) rfl _ _ _
    have HBB : Hid (Below W.heap.size W we) := by show Below _ _ _; rw [hwe]; exact blw_scs (by omega) _ _ _ HB.out
    go_wp2_with (refine wpList_store_mid rfl 38 _ _ rfl (W.heap.size + 1) 0 #[.slice none 0 0, .slice none 0 0, .slice none 0 0, .slice none 0 0, .slice none 0 0, .int .i64 0, .slice none 0 0] rfl rfl hth (by kernel_rfl) (by simp [Value.oneCell']) ?_)
    first | rw [← hwe] | (simp only [List.toList_toArray]; rw [← hwe])
    try simp only [Act.put]
    refine bodyPost_ret (v := .agg #[.slice none 0 0, .slice none 0 0, .slice none 0 0, .slice none 0 0, .slice none 0 0, .int .i64 0, .slice none 0 0]) (by simp [results, Tryz.results7, asAddr, run_loadVar_mid (P := Tryz.prog) _ _ _ 38 [.slice none 0 0, .slice none 0 0, .slice none 0 0, .slice none 0 0, .slice none 0 0, .int .i64 0, .slice none 0 0] _ hrt Tryz.underlying38 rfl (by kernel_rfl)]) rfl ?_
    have hnil : ∀ (t : TypeId) (sh : List Sh), Rep we false [.row t sh] [] [.row 0 []] [.slice none 0 0] := fun t sh => .emp _ _ _ rfl .nil
    rw [HE.out]
    refine ⟨[.slice none 0 0, .slice none 0 0, .slice none 0 0, .slice none 0 0, .slice none 0 0, .int .i64 0, .slice none 0 0], _, rfl, repHallWorld_mk (hnil _ _) (hnil _ _) (hnil _ _) (hnil _ _) (hnil _ _) _ (hnil _ _), by simp, fun b hb => ?_, HBB.out⟩
    simp at hb
  rcases HNN.out with ⟨hin, hnn1, hes, hne⟩ | ⟨hin, hnn0⟩
  case inr =>
    have HE : Hid (nwD K n = nwZ) := by show _ = _; unfold nwD; rw [hok, hin]; rfl
    subst hnn0
    have rz := HRB.out.lt
    have rc0 := HRB.out.get 0 _ rfl
    have hth : w1.there (W.heap.size + 1) 0 (#[.slice none 0 0, .slice none 0 0, .slice none 0 0, .slice none 0 0, .slice none 0 0, .int .i64 0, .slice none 0 0] : Array Value).size := uthere HO.out _ _ (by simp)
    obtain ⟨we, hwe⟩ : ∃ we, we = w1.setCells (W.heap.size + 1) 0 [.slice none 0 0, .slice none 0 0, .slice none 0 0, .slice none 0 0, .slice none 0 0, .int .i64 0, .slice none 0 0] := ⟨_, rfl⟩
    have hrt : we.rangeAt (W.heap.size + 1) 0 [.slice none 0 0, .slice none 0 0, .slice none 0 0, .slice none 0 0, .slice none 0 0, .int .i64 0, .slice none 0 0] := by rw [hwe]; exact World.rangeAt_setCells_same _ _ _ _ hth
    have HMK : Hid (Marks (fun b => b = W.heap.size + 1) w1 we) := by show Marks _ _ _; rw [hwe]; exact mks_scs (S := fun b => b = W.heap.size + 1) rfl _ _ _
    have HBB : Hid (Below W.heap.size W we) := by show Below _ _ _; rw [hwe]; exact blw_scs (by omega) _ _ _ HB.out
    go_wp2_with (refine wpList_store_mid rfl 38 _ _ rfl (W.heap.size + 1) 0 #[.slice none 0 0, .slice none 0 0, .slice none 0 0, .slice none 0 0, .slice none 0 0, .int .i64 0, .slice none 0 0] rfl rfl hth (by kernel_rfl) (by simp [Value.oneCell']) ?_)
    first | rw [← hwe] | (simp only [List.toList_toArray]; rw [← hwe])
    try simp only [Act.put]
    refine bodyPost_ret (v := .agg #[.slice none 0 0, .slice none 0 0, .slice none 0 0, .slice none 0 0, .slice none 0 0, .int .i64 0, .slice none 0 0]) (by simp [results, Tryz.results7, asAddr, run_loadVar_mid (P := Tryz.prog) _ _ _ 38 [.slice none 0 0, .slice none 0 0, .slice none 0 0, .slice none 0 0, .slice none 0 0, .int .i64 0, .slice none 0 0] _ hrt Tryz.underlying38 rfl (by kernel_rfl)]) rfl ?_
    have hnil : ∀ (t : TypeId) (sh : List Sh), Rep we false [.row t sh] [] [.row 0 []] [.slice none 0 0] := fun t sh => .emp _ _ _ rfl .nil
    rw [HE.out]
    refine ⟨[.slice none 0 0, .slice none 0 0, .slice none 0 0, .slice none 0 0, .slice none 0 0, .int .i64 0, .slice none 0 0], _, rfl, repHallWorld_mk (hnil _ _) (hnil _ _) (hnil _ _) (hnil _ _) (hnil _ _) _ (hnil _ _), by simp, fun b hb => ?_, HBB.out⟩
    simp at hb
  have HE : Hid (nwD K n = [.row K.tms.length (K.tms.flatMap eTm), .row K.grs.length (K.grs.flatMap eGn), .row nn es, .row 0 [], .row 0 [], .i 0, .row 0 []]) := by show _ = _; unfold nwD; rw [hok, hin, hnn1, hes]; rfl
  clear hnn1 hes HNN
  have rz := HRB.out.lt
  have rc0 := HRB.out.get 0 _ rfl
  go_upto_region 4 with fail
  clear rz rc0 hne
  refine RY.region_mk w1 (Below.refl _ _) (VNw K p0 p1 #[.slice a2 nn m2, .slice a3 0 m3, .slice a4 0 m4]) (VNw_mono K p0 p1 #[.slice a2 nn m2, .slice a3 0 m3, .slice a4 0 m4]) bNw [1, 2] ?_ (fun _ X => KNwr (nwD K n) W (W.heap.size + 1) X) 3 21 3 (by kernel_rfl) (by kernel_rfl) (by kernel_rfl) (by kernel_rfl) rfl (by kernel_rfl) (by kernel_rfl) _ _ rfl rfl rfl rfl (by kernel_rfl) (by kernel_rfl) ?_ ?_ ?_ ?_
  · intro f g hfg
    unfold bNw
    rw [hfg 1 (by simp), hfg 2 (by simp)]
  · intro i o ho hin a X hX hk hd
    have hx := HX.out.later hX
    have hr := HRB.out.later hX
    have t2 : a.eval (.tmp 2) = .pointer (some ⟨W.heap.size, 0, none⟩) := (hk 2 (by kernel_rfl)).trans rfl
    have t5 : a.eval (.tmp 5) = .pointer (some ⟨pr, 0, none⟩) := (hk 5 (by kernel_rfl)).trans rfl
    match i, ho with
    | 0, ho =>
      injection ho with ho; subst ho
      exact Or.inl ⟨_, X, exec_load_mid 30 _ rfl W.heap.size 0 t2 [.slice (some ⟨p0, 0, none⟩) K.tms.length K.tms.length, .slice (some ⟨p1, 0, none⟩) K.grs.length K.grs.length] _ hx.at_ Tryz.underlying30 rfl (by kernel_rfl), Below.refl _ _, rfl⟩
    | 1, ho =>
      injection ho with ho; subst ho
      have e0 : a.tmps[18]?.getD undef = _ := (RY.ev_tmp a 18).trans ((hd 0 _ 18 rfl rfl ⟨⟨0, .data⟩, by simp, rfl, rfl⟩ (by decide)).elim fun _ h => h.elim fun _ h => h)
      refine Or.inr ⟨23, #[.agg #[.slice (some ⟨p0, 0, none⟩) K.tms.length K.tms.length, .slice (some ⟨p1, 0, none⟩) K.grs.length K.grs.length]], by simp [go_sem, e0], (hallCopyHouseI K p0 p1 X (HV.out.later (blw_trans HB.out hX))).mono ?_⟩
      rintro e X' ⟨c, F, rfl, hr, nd, fr, hb⟩
      exact ⟨_, rfl, hb, c, F, rfl, hr, nd, fun b hb => ⟨fr b hb, hr.lt b hb⟩⟩
    | 2, ho =>
      injection ho with ho; subst ho
      exact Or.inl ⟨_, X, exec_load_mid 35 _ rfl pr 0 t5 [.slice a2 nn m2, .slice a3 0 m3, .slice a4 0 m4] _ hr.at_ Tryz.underlying35 rfl (by kernel_rfl), Below.refl _ _, rfl⟩
    | n + 3, ho => omega
  · intro a X vals hX hk hd
    obtain ⟨e1, _, _, c1, F1, q1, r1, _⟩ := hd 1 _ 19 rfl rfl ⟨⟨1, .data⟩, by simp, rfl, rfl⟩ (by decide)
    obtain ⟨e2, _, _, q2⟩ := hd 2 _ 20 rfl rfl ⟨⟨2, .data⟩, by simp, rfl, rfl⟩ (by decide)
    obtain ⟨Fa, va, Fb, vb, _, rfl, ra, rb⟩ := repHallHouse r1
    obtain ⟨x0, y0, rfl⟩ := ra.raw.len0
    obtain ⟨x1, y1, rfl⟩ := rb.raw.len0
    have q1 : vals 1 = _ := q1
    have q2 : vals 2 = _ := q2
    rw [← RY.ev_tmp, q1] at e1
    rw [← RY.ev_tmp, q2] at e2
    unfold bNw
    rw [q1, q2]
    simp [execOp, go_sem, e1, e2]
  · intro a X vals lo hi hX hk hV hdj hb
    obtain ⟨l1, _, c1, F1, q1, r1, n1, f1⟩ := hV 1 (by decide)
    obtain ⟨_, _, q2⟩ := hV 2 (by decide)
    obtain ⟨Fa, v0, Fb, v1, hF1, rfl, ra, rb⟩ := repHallHouse r1
    have q1 : vals 1 = _ := q1
    have q2 : vals 2 = _ := q2
    have hbf : bNw vals = .agg ([v0, v1, .slice a2 nn m2, .slice a3 0 m3, .slice a4 0 m4, .int .i64 0, .slice none 0 0] : List Value).toArray := by unfold bNw; rw [q1, q2]; rfl
    have hown := HO.out.later hX
    have hth : X.there (W.heap.size + 1) 0 7 := uthere hown _ _ (by omega)
    have t4 : a.eval (.tmp 4) = .pointer (some ⟨W.heap.size + 1, 0, none⟩) := (hk 4 (by kernel_rfl)).trans rfl
    obtain ⟨x0, y0, hx0⟩ := ra.raw.len0
    obtain ⟨x1, y1, hx1⟩ := rb.raw.len0
    have hs1 := HS1.out
    have hpr := HPR.out
    have hsb := HSB.out
    have hFn : (Fa ++ Fb).Nodup ∧ ∀ b ∈ Fa ++ Fb, w1.heap.size ≤ b := by
      rw [hF1, List.append_nil] at n1 f1
      exact ⟨n1, fun b hb => by have := f1 b hb; omega⟩
    refine ⟨X.setCells (W.heap.size + 1) 0 [v0, v1, .slice a2 nn m2, .slice a3 0 m3, .slice a4 0 m4, .int .i64 0, .slice none 0 0], ?_, ?_⟩
    · exact RY.exec_store_mid _ _ _ rfl t4 (hb.trans hbf) hth (by kernel_rfl) (by rw [hx0, hx1]; simp [Value.oneCell'])
    · have hM : Marks (fun b => b = W.heap.size + 1) X (X.setCells (W.heap.size + 1) 0 [v0, v1, .slice a2 nn m2, .slice a3 0 m3, .slice a4 0 m4, .int .i64 0, .slice none 0 0]) := mks_scs (S := fun b => b = W.heap.size + 1) rfl _ _ _
      have hnil : ∀ (t : TypeId) (sh : List Sh), Rep (X.setCells (W.heap.size + 1) 0 [v0, v1, .slice a2 nn m2, .slice a3 0 m3, .slice a4 0 m4, .int .i64 0, .slice none 0 0]) false [.row t sh] [] [.row 0 []] [.slice none 0 0] := fun t sh => .emp _ _ _ rfl .nil
      refine ⟨_, _, World.rangeAt_setCells_same _ _ _ _ hth, by rw [HE.out]; exact repHallWorld_mk (ra.keep hM (fun b hb' e => by have := hFn.2 b (by simp [hb']); omega)) (rb.keep hM (fun b hb' e => by have := hFn.2 b (by simp [hb']); omega)) ((R2.out.later hX).keep hM (fun b hb' e => by have := hpr.2.2 b (by simp [hb']); omega)) ((R3.out.later hX).keep hM (fun b hb' e => by have := hpr.2.2 b (by simp [hb']); omega)) ((R4.out.later hX).keep hM (fun b hb' e => by have := hpr.2.2 b (by simp [hb']); omega)) _ (hnil _ _), ?_, ?_, ?_⟩
      · have := List.nodup_append.2 ⟨hFn.1, HNR.out.1, fun x hx y hy e => by have := hFn.2 x hx; have := hpr.2.2 y hy; omega⟩
        simpa using this
      · have h1 := HB.out.size
        intro b q
        have hb2 : b ∈ (Fa ++ Fb) ++ (G2 ++ (G3 ++ G4)) := by simpa using q
        rcases List.mem_append.1 hb2 with q | q
        · have := hFn.2 b q; omega
        · have := hpr.2.2 b q; omega
      · exact hM.below (fun b e => by rw [e]; omega) (blw_trans HB.out hX)
  · rintro vals vs X ⟨c, F, hrt, rp, nd, fr, bel⟩ hvs
    simp only [RY.putAll, Act.put, List.setIfInBounds_toArray, List.set_cons_zero, List.set_cons_succ]
    have HLn : Hid (c.length = 7) := rp.len
    have HEND := uh (And.intro rp (And.intro nd (And.intro fr bel)))
    clear rp nd fr bel hvs
    generalize vs 18 = s18
    generalize vs 19 = s19
    generalize vs 20 = s20
    generalize vs 21 = s21
    go_wp2
    refine bodyPost_ret (v := .agg c.toArray) (by simp [results, Tryz.results7, asAddr, run_loadVar_mid (P := Tryz.prog) _ _ _ 38 c _ hrt Tryz.underlying38 rfl (by rw [HLn.out]; kernel_rfl)]) rfl ⟨c, F, rfl, HEND.out.1, HEND.out.2.1, HEND.out.2.2.1, HEND.out.2.2.2⟩
end Go.Proofs.YtfkkohfjkofgnaaGreat
