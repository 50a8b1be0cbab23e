/-
  The law of a house, by the program: what puts its parts in.
-/
import Derived.BigFrame
import Derived.Lib.AppendZeros
import Derived.Test.YtdojomnfephbhaaHLp
import Derived.Test.YtdojomnfephbhaaRgCh
import Derived.Test.YtdojomnfephbhaaUC
import Derived.Test.YtdojomnfephbhaaRgMk
namespace Go.Proofs.Ytdojomnfephbhaa
open Go.RowKit Go.Deep

theorem Try.cinfoGateShape : (Try.prog.info? 53).map (fun i => (i.zero, i.size, i.bytes)) = some (some (.agg #[.string ByteArray.empty, .slice none 0 0]), 2, 40) := by kernel_rfl
theorem Try.cunderGateShape : Try.prog.underlying 27 = some (.slice 53) := by kernel_rfl
theorem Try.cinfoGateMend : (Try.prog.info? 51).map (fun i => (i.zero, i.size, i.bytes)) = some (some (.agg #[.string ByteArray.empty, .string ByteArray.empty, .string ByteArray.empty, .string ByteArray.empty, .string ByteArray.empty, .string ByteArray.empty]), 6, 96) := by kernel_rfl
theorem Try.cunderGateMend : Try.prog.underlying 28 = some (.slice 51) := by kernel_rfl
def VTm1 (p : Nat) (va : Option Addr) (n vc : Nat) (wx : Option Addr) (wc : Nat) : Nat → Value → Prop
  | 0, u => u = .pointer (some ⟨p, 0, none⟩)
  | 1, u => u = .pointer (some ⟨p, 0, none⟩)
  | 2, u => u = .pointer (some ⟨p, 0, none⟩)
  | 3, u => u = .pointer (some ⟨p, 2, none⟩)
  | 4, u => u = .slice none 0 0
  | 5, u => u = .slice va n vc
  | 6, u => u = .slice wx n wc
  | 7, u => u = .pointer (some ⟨p, 0, none⟩)
  | 8, u => u = .pointer (some ⟨p, 2, none⟩)
  | _, _ => True

set_option maxRecDepth 8000 in
set_option maxHeartbeats 8000000 in
theorem withTeamsI (p q : Nat) (v0 v1 : Value) (va : Option Addr) (n vc : Nat) (es : List Dt) (W : World) (hX : WBox W p 31 [v0, v1, .slice none 0 0]) (hq : LBox W q [.slice va n vc]) (hr : Raw W [.row 85 shGateTeam] [.row n es] [.slice va n vc]) (hn : n ≤ 1048576) :
    Calls Try.prog 46 #[.pointer (some ⟨p, 0, none⟩), .pointer (some ⟨q, 0, none⟩)] W fun e w' => ∃ v wx wc F, e = .returned v ∧ WBox w' p 31 [v0, v1, .slice wx n wc] ∧ Rep w' false [.row 85 shGateTeam] F [.row n es] [.slice wx n wc] ∧ F.Nodup ∧ (∀ b ∈ F, W.heap.size ≤ b) ∧ Marks (fun b => b = p) W w' := by
  have hw0 : Below W.heap.size W W.drew := Below.drew (Below.refl _ _)
  obtain ⟨v', W1, xs, hrun, hg, hb⟩ := app_copy (P := Try.prog) W.heap.size 29 29 85 85 2 32 _ Try.cunderGateTeam Try.cinfoGateTeam rfl (by decide) (by decide) shGateTeam rfl (by simp [flatB]) W.drew (.slice none 0 0) (Or.inl rfl) hw0.size n es (.slice va n vc) (hr.later hw0) (by omega)
  obtain ⟨wx, wc, hvx⟩ := hg.shape
  subst hvx
  obtain ⟨FT, rT, ndT, frT⟩ := hg.done
  have hX1 := (hX.later hw0).later hb
  have c2 := (hX.later hw0).get 2 _ rfl
  have cq := (hq.later hw0).get 0 _ rfl
  have x0 := hX1.get 2 _ rfl
  have xf := hX1.own.frozen 2
  have HF : Hid (∀ u : Value, ∃ v wx' wc' F, Ending.returned u = .returned v ∧ WBox (W1.setCell ⟨p, 2, none⟩ (.slice wx n wc)) p 31 [v0, v1, .slice wx' n wc'] ∧ Rep (W1.setCell ⟨p, 2, none⟩ (.slice wx n wc)) false [.row 85 shGateTeam] F [.row n es] [.slice wx' n wc'] ∧ F.Nodup ∧ (∀ b ∈ F, W.heap.size ≤ b) ∧ Marks (fun b => b = p) W (W1.setCell ⟨p, 2, none⟩ (.slice wx n wc))) := by
    have hm : Marks (fun b => b = p) W1 (W1.setCell ⟨p, 2, none⟩ (.slice wx n wc)) := Marks.sc (S := fun b => b = p) _ rfl _ _
    intro u
    exact ⟨_, wx, wc, FT, rfl, hX1.set 2 _ (by simp), rT.keep hm (fun b hb e => by have := frT b hb; have := hX.own.lt; omega), ndT, frT, (Marks.of_below _ (blw_trans hw0 hb)).trans hm⟩
  clear hX1 hg hb rT ndT frT hX hq hr
  go_enter Try.func46, Try.ntmps46
  go_upto_region 0 with fail
  refine RY.region_ch (VTm1 p va n vc wx wc) [6, 9] (RY.ws3 W.drew W1 (W1.setCell ⟨p, 2, none⟩ (.slice wx n wc))) [1, 0, 0, 0, 0, 0, 0, 1, 1, 1] (by kernel_rfl) (by kernel_rfl) (by kernel_rfl) (by kernel_rfl) (by kernel_rfl) (by kernel_rfl) rfl ?_ ?_ (by simp)
  · intro i o ho a hk hd
    match i, ho with
    | 0, ho =>
      injection ho with ho; subst ho
      have s0 : a.eval (.tmp 0) = .pointer (some ⟨p, 0, none⟩) := (hk 0 rfl).trans rfl
      have t0 : a.tmps[0]?.getD undef = .pointer (some ⟨p, 0, none⟩) := (RY.ev_tmp a 0).trans s0
      refine ⟨fun j hj => absurd (List.mem_of_getElem? hj) (by decide), fun _ j hj => ?_⟩
      exact ⟨.pointer (some ⟨p, 0, none⟩), by simp [execOp, go_sem, t0], rfl, rfl⟩
    | 1, ho =>
      injection ho with ho; subst ho
      have s0 : a.eval (.tmp 0) = .pointer (some ⟨p, 0, none⟩) := (hk 0 rfl).trans rfl
      have t0 : a.tmps[0]?.getD undef = .pointer (some ⟨p, 0, none⟩) := (RY.ev_tmp a 0).trans s0
      refine ⟨fun j hj => absurd (List.mem_of_getElem? hj) (by decide), fun _ j hj => ?_⟩
      exact ⟨.pointer (some ⟨p, 0, none⟩), by simp [execOp, go_sem, t0], rfl, rfl⟩
    | 2, ho =>
      injection ho with ho; subst ho
      have s4 : a.eval (.tmp 4) = .pointer (some ⟨p, 0, none⟩) := hd 1 _ 4 rfl rfl ⟨⟨1, .data⟩, by simp, rfl, rfl⟩
      have t4 : a.tmps[4]?.getD undef = .pointer (some ⟨p, 0, none⟩) := (RY.ev_tmp a 4).trans s4
      refine ⟨fun j hj => absurd (List.mem_of_getElem? hj) (by decide), fun _ j hj => ?_⟩
      exact ⟨.pointer (some ⟨p, 0, none⟩), by simp [execOp, go_sem, t4], rfl, rfl⟩
    | 3, ho =>
      injection ho with ho; subst ho
      have s5 : a.eval (.tmp 5) = .pointer (some ⟨p, 0, none⟩) := hd 2 _ 5 rfl rfl ⟨⟨2, .data⟩, by simp, rfl, rfl⟩
      have t5 : a.tmps[5]?.getD undef = .pointer (some ⟨p, 0, none⟩) := (RY.ev_tmp a 5).trans s5
      refine ⟨fun j hj => absurd (List.mem_of_getElem? hj) (by decide), fun _ j hj => ?_⟩
      exact ⟨.pointer (some ⟨p, 2, none⟩), by simp [execOp, go_sem, t5], rfl, rfl⟩
    | 4, ho =>
      injection ho with ho; subst ho
      have s6 : a.eval (.tmp 6) = .pointer (some ⟨p, 2, none⟩) := hd 3 _ 6 rfl rfl ⟨⟨3, .data⟩, by simp, rfl, rfl⟩
      have t6 : a.tmps[6]?.getD undef = .pointer (some ⟨p, 2, none⟩) := (RY.ev_tmp a 6).trans s6
      refine ⟨fun j hj => absurd (List.mem_of_getElem? hj) (by decide), fun _ j hj => ?_⟩
      replace hj : j ≤ 0 := hj
      match j, hj with
      | 0, _ => exact ⟨.slice none 0 0, by simp [RY.ws3, execOp, go_sem, t6, c2], rfl, rfl⟩
      | n + 1, hj => exact absurd hj (by omega)
    | 5, ho =>
      injection ho with ho; subst ho
      have s1 : a.eval (.tmp 1) = .pointer (some ⟨q, 0, none⟩) := (hk 1 rfl).trans rfl
      have t1 : a.tmps[1]?.getD undef = .pointer (some ⟨q, 0, none⟩) := (RY.ev_tmp a 1).trans s1
      refine ⟨fun j hj => absurd (List.mem_of_getElem? hj) (by decide), fun _ j hj => ?_⟩
      replace hj : j ≤ 0 := hj
      match j, hj with
      | 0, _ => exact ⟨.slice va n vc, by simp [RY.ws3, execOp, go_sem, t1, cq], rfl, rfl⟩
      | n + 1, hj => exact absurd hj (by omega)
    | 6, ho =>
      injection ho with ho; subst ho
      have s7 : a.eval (.tmp 7) = .slice none 0 0 := hd 4 _ 7 rfl rfl ⟨⟨4, .data⟩, by simp, rfl, rfl⟩
      have t7 : a.tmps[7]?.getD undef = .slice none 0 0 := (RY.ev_tmp a 7).trans s7
      have s8 : a.eval (.tmp 8) = .slice va n vc := hd 5 _ 8 rfl rfl ⟨⟨5, .data⟩, by simp, rfl, rfl⟩
      have t8 : a.tmps[8]?.getD undef = .slice va n vc := (RY.ev_tmp a 8).trans s8
      refine ⟨fun j hj => ?_, fun h => absurd h (by decide)⟩
      obtain rfl : j = 0 := by
        match j, hj with
        | 0, hj => first | rfl | (simp at hj)
        | 1, hj => first | rfl | (simp at hj)
        | n + 2, hj => simp at hj
      exact Or.inl ⟨_, uexec_append (.tmp 7) (.tmp 8) 29 rfl s7 s8 hrun, rfl, rfl⟩
    | 7, ho =>
      injection ho with ho; subst ho
      have s3 : a.eval (.tmp 3) = .pointer (some ⟨p, 0, none⟩) := hd 0 _ 3 rfl rfl ⟨⟨0, .data⟩, by simp, rfl, rfl⟩
      have t3 : a.tmps[3]?.getD undef = .pointer (some ⟨p, 0, none⟩) := (RY.ev_tmp a 3).trans s3
      refine ⟨fun j hj => absurd (List.mem_of_getElem? hj) (by decide), fun _ j hj => ?_⟩
      exact ⟨.pointer (some ⟨p, 0, none⟩), by simp [execOp, go_sem, t3], rfl, rfl⟩
    | 8, ho =>
      injection ho with ho; subst ho
      have s10 : a.eval (.tmp 10) = .pointer (some ⟨p, 0, none⟩) := hd 7 _ 10 rfl rfl ⟨⟨7, .data⟩, by simp, rfl, rfl⟩
      have t10 : a.tmps[10]?.getD undef = .pointer (some ⟨p, 0, none⟩) := (RY.ev_tmp a 10).trans s10
      refine ⟨fun j hj => absurd (List.mem_of_getElem? hj) (by decide), fun _ j hj => ?_⟩
      exact ⟨.pointer (some ⟨p, 2, none⟩), by simp [execOp, go_sem, t10], rfl, rfl⟩
    | 9, ho =>
      injection ho with ho; subst ho
      have s11 : a.eval (.tmp 11) = .pointer (some ⟨p, 2, none⟩) := hd 8 _ 11 rfl rfl ⟨⟨8, .data⟩, by simp, rfl, rfl⟩
      have t11 : a.tmps[11]?.getD undef = .pointer (some ⟨p, 2, none⟩) := (RY.ev_tmp a 11).trans s11
      have s9 : a.eval (.tmp 9) = .slice wx n wc := hd 6 _ 9 rfl rfl ⟨⟨6, .data⟩, by simp, rfl, rfl⟩
      have t9 : a.tmps[9]?.getD undef = .slice wx n wc := (RY.ev_tmp a 9).trans s9
      refine ⟨fun j hj => ?_, fun h => absurd h (by decide)⟩
      obtain rfl : j = 1 := by
        match j, hj with
        | 0, hj => first | rfl | (simp at hj)
        | 1, hj => first | rfl | (simp at hj)
        | n + 2, hj => simp at hj
      exact Or.inr ⟨by simp [RY.ws3, execOp, go_sem, t11, t9, x0, xf], rfl⟩
    | n + 10, ho => simp at ho
  intro vs hvs
  simp only [RY.putAll, Act.put, List.setIfInBounds_toArray, List.set_cons_zero, List.set_cons_succ]
  generalize vs 3 = g3
  generalize vs 4 = g4
  generalize vs 5 = g5
  generalize vs 6 = g6
  generalize vs 7 = g7
  generalize vs 8 = g8
  generalize vs 9 = g9
  generalize vs 10 = g10
  generalize vs 11 = g11
  clear hvs
  show _
  go_wp2
  first | go_end0 | refine bodyPost_ret (results_none rfl _ _ _) rfl ?_
  exact HF.out _
def VSh1 (W : World) (p : Nat) (kd : ByteArray) (fa : Option Addr) (fn fc : Nat) (wx : Option Addr) (wc : Nat) : Nat → Value → Prop
  | 0, u => u = .pointer (some ⟨p, 0, none⟩)
  | 1, u => u = .pointer (some ⟨p, 0, none⟩)
  | 2, u => u = .pointer (some ⟨p, 0, none⟩)
  | 3, u => u = .pointer (some ⟨p, 0, none⟩)
  | 4, u => u = .slice none 0 0
  | 5, u => u = .string kd
  | 6, u => u = .slice fa fn fc
  | 7, u => u = .agg #[.string kd, .slice fa fn fc]
  | 8, u => u = .slice (some ⟨W.heap.size, 0, none⟩) 1 1
  | 9, u => u = .slice wx 1 wc
  | 10, u => u = .pointer (some ⟨p, 0, none⟩)
  | 11, u => u = .pointer (some ⟨p, 0, none⟩)
  | _, _ => True

set_option maxRecDepth 8000 in
set_option maxHeartbeats 8000000 in
theorem withShapeI (p q q2 : Nat) (v1 v2 : Value) (kd : ByteArray) (fa : Option Addr) (fn fc : Nat) (Ff : List Nat) (es : List Dt) (W : World) (hX : WBox W p 31 [.slice none 0 0, v1, v2]) (hq : LBox W q [.string kd]) (hq2 : LBox W q2 [.slice fa fn fc]) (hr : Rep W false [.row 47 shGateField] Ff [.row fn es] [.slice fa fn fc]) (hnd : Ff.Nodup) (hpf : p ∉ Ff) :
    Calls Try.prog 47 #[.pointer (some ⟨p, 0, none⟩), .pointer (some ⟨q, 0, none⟩), .pointer (some ⟨q2, 0, none⟩)] W fun e w' => ∃ v wx wc F, e = .returned v ∧ WBox w' p 31 [.slice wx 1 wc, v1, v2] ∧ Rep w' false [.row 53 shGateShape] F [.row 1 [.s kd, .row fn es]] [.slice wx 1 wc] ∧ F.Nodup ∧ (∀ b ∈ F, b ∈ Ff ∨ W.heap.size ≤ b) ∧ Marks (fun b => b = p) W w' := by
  have hw0 : Below W.heap.size W W.drew := Below.drew (Below.refl _ _)
  obtain ⟨Wb, hWb⟩ : ∃ Wb, Wb = W.drew.alloc (.cells #[.string kd, .slice fa fn fc] 53) := ⟨_, rfl⟩
  have hwb : Below W.heap.size W Wb := by rw [hWb]; exact blw_alloc hw0 _
  obtain ⟨v', W1, F3, row, hrun, rep, nd, hsub, hgr, hrow⟩ := rep_append (P := Try.prog) 27 27 53 2 40 _ Try.cunderGateShape Try.cinfoGateShape rfl (by decide) shGateShape rfl Wb (F := []) (n := 0) (es := []) (v := .slice none 0 0) (.emp _ _ _ rfl .nil) List.nodup_nil (by omega) (F' := Ff) (d := [.s kd, .row fn es]) (c' := [.string kd, .slice fa fn fc]) ⟨W.heap.size, 0, none⟩ (.s _ (hr.later hwb)) hnd (by simp) (by rw [hWb]; exact news_new W.drew #[.string kd, .slice fa fn fc] 53)
  obtain ⟨wx, wc, hvx⟩ := rep.raw.len0
  subst hvx
  have hb : Below W.heap.size W W1 := blw_grown hwb hgr (fun b e => absurd (hrow b e) (by simp))
  have hX1 := hX.later hb
  have c0 := (hX.later hw0).get 0 _ rfl
  have c0b := (hX.later hwb).get 0 _ rfl
  have cq := (hq.later hw0).get 0 _ rfl
  have cq2 := (hq2.later hw0).get 0 _ rfl
  have x0 := hX1.get 0 _ rfl
  have xf := hX1.own.frozen 0
  have HF : Hid (∀ u : Value, ∃ v wx' wc' F, Ending.returned u = .returned v ∧ WBox (W1.setCell ⟨p, 0, none⟩ (.slice wx 1 wc)) p 31 [.slice wx' 1 wc', v1, v2] ∧ Rep (W1.setCell ⟨p, 0, none⟩ (.slice wx 1 wc)) false [.row 53 shGateShape] F [.row 1 ([.s kd, .row fn es])] [.slice wx' 1 wc'] ∧ F.Nodup ∧ (∀ b ∈ F, b ∈ Ff ∨ W.heap.size ≤ b) ∧ Marks (fun b => b = p) W (W1.setCell ⟨p, 0, none⟩ (.slice wx 1 wc))) := by
    have hm : Marks (fun b => b = p) W1 (W1.setCell ⟨p, 0, none⟩ (.slice wx 1 wc)) := Marks.sc (S := fun b => b = p) _ rfl _ _
    have hs : ∀ b ∈ F3, b ∈ Ff ∨ W.heap.size ≤ b := fun b hb => by
      rcases hsub b hb with q | q | q
      · cases q
      · exact Or.inl q
      · have := hwb.size; exact Or.inr (by omega)
    intro u
    exact ⟨_, wx, wc, F3, rfl, hX1.set 0 _ (by simp), rep.keep hm (fun b hb e => by rcases hs b hb with q | q; exact hpf (by rw [← e]; exact q); have := hX.own.lt; omega), nd, hs, (Marks.of_below _ hb).trans hm⟩
  clear hX1 hr hnd hpf hq hq2 hb rep nd hsub hgr hrow hX hwb
  go_enter Try.func47, Try.ntmps47
  go_upto_region 0 with fail
  refine RY.region_ch (VSh1 W p kd fa fn fc wx wc) [8, 9, 12] (RY.ws4 W.drew Wb W1 (W1.setCell ⟨p, 0, none⟩ (.slice wx 1 wc))) [2, 1, 1, 1, 1, 0, 0, 0, 0, 1, 2, 2, 2] (by kernel_rfl) (by kernel_rfl) (by kernel_rfl) (by kernel_rfl) (by kernel_rfl) (by kernel_rfl) rfl ?_ ?_ (by simp)
  · intro i o ho a hk hd
    match i, ho with
    | 0, ho =>
      injection ho with ho; subst ho
      have s0 : a.eval (.tmp 0) = .pointer (some ⟨p, 0, none⟩) := (hk 0 rfl).trans rfl
      have t0 : a.tmps[0]?.getD undef = .pointer (some ⟨p, 0, none⟩) := (RY.ev_tmp a 0).trans s0
      refine ⟨fun j hj => absurd (List.mem_of_getElem? hj) (by decide), fun _ j hj => ?_⟩
      exact ⟨.pointer (some ⟨p, 0, none⟩), by simp [execOp, go_sem, t0], rfl, rfl⟩
    | 1, ho =>
      injection ho with ho; subst ho
      have s0 : a.eval (.tmp 0) = .pointer (some ⟨p, 0, none⟩) := (hk 0 rfl).trans rfl
      have t0 : a.tmps[0]?.getD undef = .pointer (some ⟨p, 0, none⟩) := (RY.ev_tmp a 0).trans s0
      refine ⟨fun j hj => absurd (List.mem_of_getElem? hj) (by decide), fun _ j hj => ?_⟩
      exact ⟨.pointer (some ⟨p, 0, none⟩), by simp [execOp, go_sem, t0], rfl, rfl⟩
    | 2, ho =>
      injection ho with ho; subst ho
      have s5 : a.eval (.tmp 5) = .pointer (some ⟨p, 0, none⟩) := hd 1 _ 5 rfl rfl ⟨⟨1, .data⟩, by simp, rfl, rfl⟩
      have t5 : a.tmps[5]?.getD undef = .pointer (some ⟨p, 0, none⟩) := (RY.ev_tmp a 5).trans s5
      refine ⟨fun j hj => absurd (List.mem_of_getElem? hj) (by decide), fun _ j hj => ?_⟩
      exact ⟨.pointer (some ⟨p, 0, none⟩), by simp [execOp, go_sem, t5], rfl, rfl⟩
    | 3, ho =>
      injection ho with ho; subst ho
      have s6 : a.eval (.tmp 6) = .pointer (some ⟨p, 0, none⟩) := hd 2 _ 6 rfl rfl ⟨⟨2, .data⟩, by simp, rfl, rfl⟩
      have t6 : a.tmps[6]?.getD undef = .pointer (some ⟨p, 0, none⟩) := (RY.ev_tmp a 6).trans s6
      refine ⟨fun j hj => absurd (List.mem_of_getElem? hj) (by decide), fun _ j hj => ?_⟩
      exact ⟨.pointer (some ⟨p, 0, none⟩), by simp [execOp, go_sem, t6], rfl, rfl⟩
    | 4, ho =>
      injection ho with ho; subst ho
      have s7 : a.eval (.tmp 7) = .pointer (some ⟨p, 0, none⟩) := hd 3 _ 7 rfl rfl ⟨⟨3, .data⟩, by simp, rfl, rfl⟩
      have t7 : a.tmps[7]?.getD undef = .pointer (some ⟨p, 0, none⟩) := (RY.ev_tmp a 7).trans s7
      refine ⟨fun j hj => absurd (List.mem_of_getElem? hj) (by decide), fun _ j hj => ?_⟩
      replace hj : j ≤ 1 := hj
      match j, hj with
      | 0, _ => exact ⟨.slice none 0 0, by simp [RY.ws4, execOp, go_sem, t7, c0], rfl, rfl⟩
      | 1, _ => exact ⟨.slice none 0 0, by simp [RY.ws4, execOp, go_sem, t7, c0b], rfl, rfl⟩
      | n + 2, hj => exact absurd hj (by omega)
    | 5, ho =>
      injection ho with ho; subst ho
      have s1 : a.eval (.tmp 1) = .pointer (some ⟨q, 0, none⟩) := (hk 1 rfl).trans rfl
      have t1 : a.tmps[1]?.getD undef = .pointer (some ⟨q, 0, none⟩) := (RY.ev_tmp a 1).trans s1
      refine ⟨fun j hj => absurd (List.mem_of_getElem? hj) (by decide), fun _ j hj => ?_⟩
      replace hj : j ≤ 0 := hj
      match j, hj with
      | 0, _ => exact ⟨.string kd, by simp [RY.ws4, execOp, go_sem, t1, cq], rfl, rfl⟩
      | n + 1, hj => exact absurd hj (by omega)
    | 6, ho =>
      injection ho with ho; subst ho
      have s2 : a.eval (.tmp 2) = .pointer (some ⟨q2, 0, none⟩) := (hk 2 rfl).trans rfl
      have t2 : a.tmps[2]?.getD undef = .pointer (some ⟨q2, 0, none⟩) := (RY.ev_tmp a 2).trans s2
      refine ⟨fun j hj => absurd (List.mem_of_getElem? hj) (by decide), fun _ j hj => ?_⟩
      replace hj : j ≤ 0 := hj
      match j, hj with
      | 0, _ => exact ⟨.slice fa fn fc, by simp [RY.ws4, execOp, go_sem, t2, cq2], rfl, rfl⟩
      | n + 1, hj => exact absurd hj (by omega)
    | 7, ho =>
      injection ho with ho; subst ho
      have s9 : a.eval (.tmp 9) = .string kd := hd 5 _ 9 rfl rfl ⟨⟨5, .data⟩, by simp, rfl, rfl⟩
      have t9 : a.tmps[9]?.getD undef = .string kd := (RY.ev_tmp a 9).trans s9
      have s10 : a.eval (.tmp 10) = .slice fa fn fc := hd 6 _ 10 rfl rfl ⟨⟨6, .data⟩, by simp, rfl, rfl⟩
      have t10 : a.tmps[10]?.getD undef = .slice fa fn fc := (RY.ev_tmp a 10).trans s10
      refine ⟨fun j hj => absurd (List.mem_of_getElem? hj) (by decide), fun _ j hj => ?_⟩
      exact ⟨.agg #[.string kd, .slice fa fn fc], by simp [execOp, go_sem, t9, t10], rfl, rfl⟩
    | 8, ho =>
      injection ho with ho; subst ho
      have s11 : a.eval (.tmp 11) = .agg #[.string kd, .slice fa fn fc] := hd 7 _ 11 rfl rfl ⟨⟨7, .data⟩, by simp, rfl, rfl⟩
      have t11 : a.tmps[11]?.getD undef = .agg #[.string kd, .slice fa fn fc] := (RY.ev_tmp a 11).trans s11
      refine ⟨fun j hj => ?_, fun h => absurd h (by decide)⟩
      obtain rfl : j = 0 := by
        match j, hj with
        | 0, hj => first | rfl | (simp at hj)
        | 1, hj => first | rfl | (simp at hj)
        | 2, hj => first | rfl | (simp at hj)
        | n + 3, hj => simp at hj
      exact Or.inl ⟨.slice (some ⟨W.heap.size, 0, none⟩) 1 1, by rw [hWb]; simp [RY.ws4, execOp, go_sem, t11], rfl, rfl⟩
    | 9, ho =>
      injection ho with ho; subst ho
      have s8 : a.eval (.tmp 8) = .slice none 0 0 := hd 4 _ 8 rfl rfl ⟨⟨4, .data⟩, by simp, rfl, rfl⟩
      have t8 : a.tmps[8]?.getD undef = .slice none 0 0 := (RY.ev_tmp a 8).trans s8
      have s12 : a.eval (.tmp 12) = .slice (some ⟨W.heap.size, 0, none⟩) 1 1 := hd 8 _ 12 rfl rfl ⟨⟨8, .data⟩, by simp, rfl, rfl⟩
      have t12 : a.tmps[12]?.getD undef = .slice (some ⟨W.heap.size, 0, none⟩) 1 1 := (RY.ev_tmp a 12).trans s12
      refine ⟨fun j hj => ?_, fun h => absurd h (by decide)⟩
      obtain rfl : j = 1 := by
        match j, hj with
        | 0, hj => first | rfl | (simp at hj)
        | 1, hj => first | rfl | (simp at hj)
        | 2, hj => first | rfl | (simp at hj)
        | n + 3, hj => simp at hj
      exact Or.inl ⟨_, uexec_append (.tmp 8) (.tmp 12) 27 rfl s8 s12 hrun, rfl, rfl⟩
    | 10, ho =>
      injection ho with ho; subst ho
      have s4 : a.eval (.tmp 4) = .pointer (some ⟨p, 0, none⟩) := hd 0 _ 4 rfl rfl ⟨⟨0, .data⟩, by simp, rfl, rfl⟩
      have t4 : a.tmps[4]?.getD undef = .pointer (some ⟨p, 0, none⟩) := (RY.ev_tmp a 4).trans s4
      refine ⟨fun j hj => absurd (List.mem_of_getElem? hj) (by decide), fun _ j hj => ?_⟩
      exact ⟨.pointer (some ⟨p, 0, none⟩), by simp [execOp, go_sem, t4], rfl, rfl⟩
    | 11, ho =>
      injection ho with ho; subst ho
      have s14 : a.eval (.tmp 14) = .pointer (some ⟨p, 0, none⟩) := hd 10 _ 14 rfl rfl ⟨⟨10, .data⟩, by simp, rfl, rfl⟩
      have t14 : a.tmps[14]?.getD undef = .pointer (some ⟨p, 0, none⟩) := (RY.ev_tmp a 14).trans s14
      refine ⟨fun j hj => absurd (List.mem_of_getElem? hj) (by decide), fun _ j hj => ?_⟩
      exact ⟨.pointer (some ⟨p, 0, none⟩), by simp [execOp, go_sem, t14], rfl, rfl⟩
    | 12, ho =>
      injection ho with ho; subst ho
      have s15 : a.eval (.tmp 15) = .pointer (some ⟨p, 0, none⟩) := hd 11 _ 15 rfl rfl ⟨⟨11, .data⟩, by simp, rfl, rfl⟩
      have t15 : a.tmps[15]?.getD undef = .pointer (some ⟨p, 0, none⟩) := (RY.ev_tmp a 15).trans s15
      have s13 : a.eval (.tmp 13) = .slice wx 1 wc := hd 9 _ 13 rfl rfl ⟨⟨9, .data⟩, by simp, rfl, rfl⟩
      have t13 : a.tmps[13]?.getD undef = .slice wx 1 wc := (RY.ev_tmp a 13).trans s13
      refine ⟨fun j hj => ?_, fun h => absurd h (by decide)⟩
      obtain rfl : j = 2 := by
        match j, hj with
        | 0, hj => first | rfl | (simp at hj)
        | 1, hj => first | rfl | (simp at hj)
        | 2, hj => first | rfl | (simp at hj)
        | n + 3, hj => simp at hj
      exact Or.inr ⟨by simp [RY.ws4, execOp, go_sem, t15, t13, x0, xf], rfl⟩
    | n + 13, ho => simp at ho
  intro vs hvs
  simp only [RY.putAll, Act.put, List.setIfInBounds_toArray, List.set_cons_zero, List.set_cons_succ]
  generalize vs 4 = g4
  generalize vs 5 = g5
  generalize vs 6 = g6
  generalize vs 7 = g7
  generalize vs 8 = g8
  generalize vs 9 = g9
  generalize vs 10 = g10
  generalize vs 11 = g11
  generalize vs 12 = g12
  generalize vs 13 = g13
  generalize vs 14 = g14
  generalize vs 15 = g15
  clear hvs
  show _
  go_wp2
  first | go_end0 | refine bodyPost_ret (results_none rfl _ _ _) rfl ?_
  exact HF.out _
def VMd1 (W : World) (p : Nat) (wx : Option Addr) (wc : Nat) : Nat → Value → Prop
  | 0, u => u = .pointer (some ⟨p, 0, none⟩)
  | 1, u => u = .pointer (some ⟨p, 0, none⟩)
  | 2, u => u = .pointer (some ⟨p, 0, none⟩)
  | 3, u => u = .pointer (some ⟨p, 1, none⟩)
  | 4, u => u = .slice none 0 0
  | 5, u => u = .agg mndV.toArray
  | 6, u => u = .slice (some ⟨W.heap.size, 0, none⟩) 1 1
  | 7, u => u = .slice wx 1 wc
  | 8, u => u = .pointer (some ⟨p, 0, none⟩)
  | 9, u => u = .pointer (some ⟨p, 1, none⟩)
  | _, _ => True

set_option maxRecDepth 8000 in
set_option maxHeartbeats 8000000 in
theorem withMendI (p q : Nat) (v0 v2 : Value) (W : World) (hX : WBox W p 31 [v0, .slice none 0 0, v2]) (hq : LBox W q mndV) :
    Calls Try.prog 48 #[.pointer (some ⟨p, 0, none⟩), .pointer (some ⟨q, 0, none⟩)] W fun e w' => ∃ v wx wc F, e = .returned v ∧ WBox w' p 31 [v0, .slice wx 1 wc, v2] ∧ Rep w' false [.row 51 shGateMend] F [.row 1 mndD] [.slice wx 1 wc] ∧ F.Nodup ∧ (∀ b ∈ F, b ∈ [] ∨ W.heap.size ≤ b) ∧ Marks (fun b => b = p) W w' := by
  have hw0 : Below W.heap.size W W.drew := Below.drew (Below.refl _ _)
  obtain ⟨Wb, hWb⟩ : ∃ Wb, Wb = W.drew.alloc (.cells mndV.toArray 51) := ⟨_, rfl⟩
  have hwb : Below W.heap.size W Wb := by rw [hWb]; exact blw_alloc hw0 _
  obtain ⟨v', W1, F3, row, hrun, rep, nd, hsub, hgr, hrow⟩ := rep_append (P := Try.prog) 28 28 51 6 96 _ Try.cunderGateMend Try.cinfoGateMend rfl (by decide) shGateMend rfl Wb (F := []) (n := 0) (es := []) (v := .slice none 0 0) (.emp _ _ _ rfl .nil) List.nodup_nil (by omega) (F' := []) (d := mndD) (c' := mndV) ⟨W.heap.size, 0, none⟩ (mndR Wb false) List.nodup_nil (by simp) (by rw [hWb]; exact news_new W.drew mndV.toArray 51)
  obtain ⟨wx, wc, hvx⟩ := rep.raw.len0
  subst hvx
  have hb : Below W.heap.size W W1 := blw_grown hwb hgr (fun b e => absurd (hrow b e) (by simp))
  have hX1 := hX.later hb
  have c0 := (hX.later hw0).get 1 _ rfl
  have c0b := (hX.later hwb).get 1 _ rfl
  have cq := (hq.later hw0).at_
  have x0 := hX1.get 1 _ rfl
  have xf := hX1.own.frozen 1
  have HF : Hid (∀ u : Value, ∃ v wx' wc' F, Ending.returned u = .returned v ∧ WBox (W1.setCell ⟨p, 1, none⟩ (.slice wx 1 wc)) p 31 [v0, .slice wx' 1 wc', v2] ∧ Rep (W1.setCell ⟨p, 1, none⟩ (.slice wx 1 wc)) false [.row 51 shGateMend] F [.row 1 (mndD)] [.slice wx' 1 wc'] ∧ F.Nodup ∧ (∀ b ∈ F, b ∈ [] ∨ W.heap.size ≤ b) ∧ Marks (fun b => b = p) W (W1.setCell ⟨p, 1, none⟩ (.slice wx 1 wc))) := by
    have hm : Marks (fun b => b = p) W1 (W1.setCell ⟨p, 1, none⟩ (.slice wx 1 wc)) := Marks.sc (S := fun b => b = p) _ rfl _ _
    have hs : ∀ b ∈ F3, b ∈ [] ∨ W.heap.size ≤ b := fun b hb => by
      rcases hsub b hb with q | q | q
      · cases q
      · exact Or.inl q
      · have := hwb.size; exact Or.inr (by omega)
    intro u
    exact ⟨_, wx, wc, F3, rfl, hX1.set 1 _ (by simp), rep.keep hm (fun b hb e => by rcases hs b hb with q | q; cases q; have := hX.own.lt; omega), nd, hs, (Marks.of_below _ hb).trans hm⟩
  clear hX1 hq hb rep nd hsub hgr hrow hX hwb
  go_enter Try.func48, Try.ntmps48
  go_upto_region 0 with fail
  refine RY.region_ch (VMd1 W p wx wc) [6, 7, 10] (RY.ws4 W.drew Wb W1 (W1.setCell ⟨p, 1, none⟩ (.slice wx 1 wc))) [2, 1, 1, 1, 1, 0, 0, 1, 2, 2, 2] (by kernel_rfl) (by kernel_rfl) (by kernel_rfl) (by kernel_rfl) (by kernel_rfl) (by kernel_rfl) rfl ?_ ?_ (by simp)
  · intro i o ho a hk hd
    match i, ho with
    | 0, ho =>
      injection ho with ho; subst ho
      have s0 : a.eval (.tmp 0) = .pointer (some ⟨p, 0, none⟩) := (hk 0 rfl).trans rfl
      have t0 : a.tmps[0]?.getD undef = .pointer (some ⟨p, 0, none⟩) := (RY.ev_tmp a 0).trans s0
      refine ⟨fun j hj => absurd (List.mem_of_getElem? hj) (by decide), fun _ j hj => ?_⟩
      exact ⟨.pointer (some ⟨p, 0, none⟩), by simp [execOp, go_sem, t0], rfl, rfl⟩
    | 1, ho =>
      injection ho with ho; subst ho
      have s0 : a.eval (.tmp 0) = .pointer (some ⟨p, 0, none⟩) := (hk 0 rfl).trans rfl
      have t0 : a.tmps[0]?.getD undef = .pointer (some ⟨p, 0, none⟩) := (RY.ev_tmp a 0).trans s0
      refine ⟨fun j hj => absurd (List.mem_of_getElem? hj) (by decide), fun _ j hj => ?_⟩
      exact ⟨.pointer (some ⟨p, 0, none⟩), by simp [execOp, go_sem, t0], rfl, rfl⟩
    | 2, ho =>
      injection ho with ho; subst ho
      have s4 : a.eval (.tmp 4) = .pointer (some ⟨p, 0, none⟩) := hd 1 _ 4 rfl rfl ⟨⟨1, .data⟩, by simp, rfl, rfl⟩
      have t4 : a.tmps[4]?.getD undef = .pointer (some ⟨p, 0, none⟩) := (RY.ev_tmp a 4).trans s4
      refine ⟨fun j hj => absurd (List.mem_of_getElem? hj) (by decide), fun _ j hj => ?_⟩
      exact ⟨.pointer (some ⟨p, 0, none⟩), by simp [execOp, go_sem, t4], rfl, rfl⟩
    | 3, ho =>
      injection ho with ho; subst ho
      have s5 : a.eval (.tmp 5) = .pointer (some ⟨p, 0, none⟩) := hd 2 _ 5 rfl rfl ⟨⟨2, .data⟩, by simp, rfl, rfl⟩
      have t5 : a.tmps[5]?.getD undef = .pointer (some ⟨p, 0, none⟩) := (RY.ev_tmp a 5).trans s5
      refine ⟨fun j hj => absurd (List.mem_of_getElem? hj) (by decide), fun _ j hj => ?_⟩
      exact ⟨.pointer (some ⟨p, 1, none⟩), by simp [execOp, go_sem, t5], rfl, rfl⟩
    | 4, ho =>
      injection ho with ho; subst ho
      have s6 : a.eval (.tmp 6) = .pointer (some ⟨p, 1, none⟩) := hd 3 _ 6 rfl rfl ⟨⟨3, .data⟩, by simp, rfl, rfl⟩
      have t6 : a.tmps[6]?.getD undef = .pointer (some ⟨p, 1, none⟩) := (RY.ev_tmp a 6).trans s6
      refine ⟨fun j hj => absurd (List.mem_of_getElem? hj) (by decide), fun _ j hj => ?_⟩
      replace hj : j ≤ 1 := hj
      match j, hj with
      | 0, _ => exact ⟨.slice none 0 0, by simp [RY.ws4, execOp, go_sem, t6, c0], rfl, rfl⟩
      | 1, _ => exact ⟨.slice none 0 0, by simp [RY.ws4, execOp, go_sem, t6, c0b], rfl, rfl⟩
      | n + 2, hj => exact absurd hj (by omega)
    | 5, ho =>
      injection ho with ho; subst ho
      have s1 : a.eval (.tmp 1) = .pointer (some ⟨q, 0, none⟩) := (hk 1 rfl).trans rfl
      have t1 : a.tmps[1]?.getD undef = .pointer (some ⟨q, 0, none⟩) := (RY.ev_tmp a 1).trans s1
      refine ⟨fun j hj => absurd (List.mem_of_getElem? hj) (by decide), fun _ j hj => ?_⟩
      replace hj : j ≤ 0 := hj
      match j, hj with
      | 0, _ => exact ⟨.agg mndV.toArray, exec_load_mid 51 _ rfl q 0 s1 mndV _ cq Try.underlying51 rfl (by kernel_rfl), rfl, rfl⟩
      | n + 1, hj => exact absurd hj (by omega)
    | 6, ho =>
      injection ho with ho; subst ho
      have s8 : a.eval (.tmp 8) = .agg mndV.toArray := hd 5 _ 8 rfl rfl ⟨⟨5, .data⟩, by simp, rfl, rfl⟩
      have t8 : a.tmps[8]?.getD undef = .agg mndV.toArray := (RY.ev_tmp a 8).trans s8
      refine ⟨fun j hj => ?_, fun h => absurd h (by decide)⟩
      obtain rfl : j = 0 := by
        match j, hj with
        | 0, hj => first | rfl | (simp at hj)
        | 1, hj => first | rfl | (simp at hj)
        | 2, hj => first | rfl | (simp at hj)
        | n + 3, hj => simp at hj
      exact Or.inl ⟨.slice (some ⟨W.heap.size, 0, none⟩) 1 1, by rw [hWb]; simp [RY.ws4, execOp, go_sem, t8, mndV], rfl, rfl⟩
    | 7, ho =>
      injection ho with ho; subst ho
      have s7 : a.eval (.tmp 7) = .slice none 0 0 := hd 4 _ 7 rfl rfl ⟨⟨4, .data⟩, by simp, rfl, rfl⟩
      have t7 : a.tmps[7]?.getD undef = .slice none 0 0 := (RY.ev_tmp a 7).trans s7
      have s9 : a.eval (.tmp 9) = .slice (some ⟨W.heap.size, 0, none⟩) 1 1 := hd 6 _ 9 rfl rfl ⟨⟨6, .data⟩, by simp, rfl, rfl⟩
      have t9 : a.tmps[9]?.getD undef = .slice (some ⟨W.heap.size, 0, none⟩) 1 1 := (RY.ev_tmp a 9).trans s9
      refine ⟨fun j hj => ?_, fun h => absurd h (by decide)⟩
      obtain rfl : j = 1 := by
        match j, hj with
        | 0, hj => first | rfl | (simp at hj)
        | 1, hj => first | rfl | (simp at hj)
        | 2, hj => first | rfl | (simp at hj)
        | n + 3, hj => simp at hj
      exact Or.inl ⟨_, uexec_append (.tmp 7) (.tmp 9) 28 rfl s7 s9 hrun, rfl, rfl⟩
    | 8, ho =>
      injection ho with ho; subst ho
      have s3 : a.eval (.tmp 3) = .pointer (some ⟨p, 0, none⟩) := hd 0 _ 3 rfl rfl ⟨⟨0, .data⟩, by simp, rfl, rfl⟩
      have t3 : a.tmps[3]?.getD undef = .pointer (some ⟨p, 0, none⟩) := (RY.ev_tmp a 3).trans s3
      refine ⟨fun j hj => absurd (List.mem_of_getElem? hj) (by decide), fun _ j hj => ?_⟩
      exact ⟨.pointer (some ⟨p, 0, none⟩), by simp [execOp, go_sem, t3], rfl, rfl⟩
    | 9, ho =>
      injection ho with ho; subst ho
      have s11 : a.eval (.tmp 11) = .pointer (some ⟨p, 0, none⟩) := hd 8 _ 11 rfl rfl ⟨⟨8, .data⟩, by simp, rfl, rfl⟩
      have t11 : a.tmps[11]?.getD undef = .pointer (some ⟨p, 0, none⟩) := (RY.ev_tmp a 11).trans s11
      refine ⟨fun j hj => absurd (List.mem_of_getElem? hj) (by decide), fun _ j hj => ?_⟩
      exact ⟨.pointer (some ⟨p, 1, none⟩), by simp [execOp, go_sem, t11], rfl, rfl⟩
    | 10, ho =>
      injection ho with ho; subst ho
      have s12 : a.eval (.tmp 12) = .pointer (some ⟨p, 1, none⟩) := hd 9 _ 12 rfl rfl ⟨⟨9, .data⟩, by simp, rfl, rfl⟩
      have t12 : a.tmps[12]?.getD undef = .pointer (some ⟨p, 1, none⟩) := (RY.ev_tmp a 12).trans s12
      have s10 : a.eval (.tmp 10) = .slice wx 1 wc := hd 7 _ 10 rfl rfl ⟨⟨7, .data⟩, by simp, rfl, rfl⟩
      have t10 : a.tmps[10]?.getD undef = .slice wx 1 wc := (RY.ev_tmp a 10).trans s10
      refine ⟨fun j hj => ?_, fun h => absurd h (by decide)⟩
      obtain rfl : j = 2 := by
        match j, hj with
        | 0, hj => first | rfl | (simp at hj)
        | 1, hj => first | rfl | (simp at hj)
        | 2, hj => first | rfl | (simp at hj)
        | n + 3, hj => simp at hj
      exact Or.inr ⟨by simp [RY.ws4, execOp, go_sem, t12, t10, x0, xf], rfl⟩
    | n + 11, ho => simp at ho
  intro vs hvs
  simp only [RY.putAll, Act.put, List.setIfInBounds_toArray, List.set_cons_zero, List.set_cons_succ]
  generalize vs 3 = g3
  generalize vs 4 = g4
  generalize vs 5 = g5
  generalize vs 6 = g6
  generalize vs 7 = g7
  generalize vs 8 = g8
  generalize vs 9 = g9
  generalize vs 10 = g10
  generalize vs 11 = g11
  generalize vs 12 = g12
  clear hvs
  show _
  go_wp2
  first | go_end0 | refine bodyPost_ret (results_none rfl _ _ _) rfl ?_
  exact HF.out _
end Go.Proofs.Ytdojomnfephbhaa
