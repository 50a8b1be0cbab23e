/-
  Stewards: StewAsk, by the specification.
-/
import Derived.Test.YtamhfnlogldpaaaGreatStZ
import Derived.Test.YtamhfnlogldpaaaGreatAcR
import Derived.Test.YtamhfnlogldpaaaGreatLetX
import Derived.Test.YtamhfnlogldpaaaGreatPsF
import Derived.Test.YtamhfnlogldpaaaGreatStD
namespace Go.Proofs.YtamhfnlogldpaaaGreat
open Go.RowKit Go.Deep

/-- Whether an act asks for anything. -/
def asked (a : Ac) : Bool := decide (0 < a.create) || a.scale || decide (0 < a.ends.length) || a.drop
/-- What a steward asks for, service by service. -/
def askTo (kind : Int) (K : SBk) (k : Nat) : List Ac := ((K.svcs.take k).map (actAc kind K)).filter asked
def askOf (kind : Int) (K : SBk) : List Ac := if sbOk K = true then askTo kind K K.svcs.length else []
theorem askTo_succ (kind : Int) (K : SBk) {k : Nat} (hk : k < K.svcs.length) : askTo kind K (k + 1) = askTo kind K k ++ (if asked (actAc kind K (K.svcs.getD k Sv.none)) then [actAc kind K (K.svcs.getD k Sv.none)] else []) := by
  have e : K.svcs[k]? = some (K.svcs.getD k Sv.none) := by simp [hk]
  unfold askTo
  rw [List.take_add_one, e, List.map_append, List.filter_append]
  congr 1
  simp only [Option.toList_some, List.map_cons, List.map_nil, List.filter_cons, List.filter_nil]
theorem askTo_len (kind : Int) (K : SBk) (k : Nat) : (askTo kind K k).length ≤ k := Nat.le_trans (List.length_filter_le _ _) (by rw [List.length_map, List.length_take]; omega)
theorem act_svc (kind : Int) (K : SBk) (s : Sv) : (actAc kind K s).svc = s.nm ∧ (actAc kind K s).seen = s.ver := by
  unfold actAc counterAc replAc scalAc baseAc
  (repeat' split) <;> exact ⟨rfl, rfl⟩
theorem svs_ok {K : SBk} (h : sbOk K = true) : K.svcs.length ≤ 8 ∧ ∀ i, i < K.svcs.length → svOk (K.svcs.getD i Sv.none) K.now = true := by
  simp only [sbOk, Bool.and_eq_true, decide_eq_true_eq] at h
  obtain ⟨⟨⟨⟨⟨⟨_, h1⟩, _⟩, _⟩, h4⟩, _⟩, _⟩ := h
  exact ⟨h1, fun i hi => by
    have := (allTo_iff _ _).1 h4 i hi
    simp only [Bool.and_eq_true] at this
    first | exact this | exact this.1 | exact this.2 | exact this.1.1⟩
theorem sv_bounds {s : Sv} {now : Int} (h : svOk s now = true) : (0 ≤ s.want ∧ s.want ≤ 10 ∧ 0 ≤ s.down ∧ s.down ≤ 10) ∧ (0 ≤ s.over ∧ s.over ≤ 10) ∧ 0 ≤ s.per ∧ s.per ≤ 1000000 ∧ 0 ≤ s.load ∧ s.load ≤ 1000000 ∧ 0 ≤ s.cool ∧ s.cool ≤ 3 := by
  simp only [svOk, Bool.and_eq_true, inB, decide_eq_true_eq] at h
  obtain ⟨⟨⟨⟨⟨_, hw⟩, hd⟩, ho⟩, _⟩, hp⟩ := h
  split at hp
  · simp only [Bool.and_eq_true, decide_eq_true_eq] at hp
    omega
  · simp only [Bool.and_eq_true, decide_eq_true_eq] at hp
    omega
theorem svRange {w : World} {b o : Nat} {m : Sv} (h : SvIs w b o m) : w.rangeAt b o [.string m.nm, .int .i64 m.ver, .bool m.gone, .int .i64 m.image, .int .i64 m.want, .int .i64 m.down, .int .i64 m.over, .int .i64 m.next, .int .i64 m.per, .int .i64 m.least, .int .i64 m.most, .int .i64 m.load, .int .i64 m.cool] := fun j v hv => by
  match j, hv with
  | 0, hv => injection hv with hv; subst hv; exact h.c0
  | 1, hv => injection hv with hv; subst hv; exact h.c1
  | 2, hv => injection hv with hv; subst hv; exact h.c2
  | 3, hv => injection hv with hv; subst hv; exact h.c3
  | 4, hv => injection hv with hv; subst hv; exact h.c4
  | 5, hv => injection hv with hv; subst hv; exact h.c5
  | 6, hv => injection hv with hv; subst hv; exact h.c6
  | 7, hv => injection hv with hv; subst hv; exact h.c7
  | 8, hv => injection hv with hv; subst hv; exact h.c8
  | 9, hv => injection hv with hv; subst hv; exact h.c9
  | 10, hv => injection hv with hv; subst hv; exact h.c10
  | 11, hv => injection hv with hv; subst hv; exact h.c11
  | 12, hv => injection hv with hv; subst hv; exact h.c12
  | n + 13, hv => simp at hv
theorem Tryz.infAs : (Tryz.prog.info? 47).map (fun i => (i.zero, i.size, i.bytes)) = some (some (.agg #[.string ByteArray.empty, .int .i64 0, .int .i64 0, .int .i64 0, .int .i64 0, .bool false, .slice none 0 0, .bool false]), 8, 88) := by kernel_rfl
theorem Tryz.undAs : Tryz.prog.underlying 28 = some (.slice 47) := by kernel_rfl
def VAk (B b off lo : Nat) (K : SBk) (a0 a1 a2 : Option Addr) (c0 c1 c2 : Nat) (kind : Int) (k : Nat) (m : Sv) (X : Ac) (i : Nat) (u : Value) (W : World) : Prop :=
  match i with
  | 0 => u = .int .i64 kind
  | 1 => u = .agg #[.int .i64 K.now, .slice a0 K.svcs.length c0, .slice a1 K.cps.length c1, .slice a2 K.bts.length c2]
  | 2 => u = .pointer (some ⟨B, 1, none⟩)
  | 3 => u = .slice a0 K.svcs.length c0
  | 4 => u = .int .i64 (k : Nat)
  | 5 => u = .pointer (some ⟨b, off, none⟩)
  | 6 => u = .agg #[.string m.nm, .int .i64 m.ver, .bool m.gone, .int .i64 m.image, .int .i64 m.want, .int .i64 m.down, .int .i64 m.over, .int .i64 m.next, .int .i64 m.per, .int .i64 m.least, .int .i64 m.most, .int .i64 m.load, .int .i64 m.cool]
  | 7 => ∃ va vc, u = .agg #[.string X.svc, .int .i64 X.seen, .int .i64 X.create, .int .i64 X.want, .int .i64 X.cool, .bool X.scale, .slice va X.ends.length vc, .bool X.drop] ∧ W.ownsRow lo 114 2 (.slice va X.ends.length vc) X.ends.length (X.ends.flatMap EnC)
  | _ => True

theorem VAk_mono (B b off lo : Nat) (K : SBk) (a0 a1 a2 : Option Addr) (c0 c1 c2 : Nat) (kind : Int) (k : Nat) (m : Sv) (X : Ac) : ∀ j u W W', Below W.heap.size W W' → VAk B b off lo K a0 a1 a2 c0 c1 c2 kind k m X j u W → VAk B b off lo K a0 a1 a2 c0 c1 c2 kind k m X j u W' := by
  intro j u W W' hb h
  match j, h with
  | 0, h => exact h
  | 1, h => exact h
  | 2, h => exact h
  | 3, h => exact h
  | 4, h => exact h
  | 5, h => exact h
  | 6, h => exact h
  | 7, h => obtain ⟨va, vc, e, h0⟩ := h; exact ⟨va, vc, e, owns_later h0 hb⟩
  | n + 8, _ => trivial
theorem VAk_sc (B b off lo : Nat) (K : SBk) (a0 a1 a2 : Option Addr) (c0 c1 c2 : Nat) (kind : Int) (k : Nat) (m : Sv) (X : Ac) : ∀ j u W p o x, OwnBlk W p 47 8 → VAk B b off lo K a0 a1 a2 c0 c1 c2 kind k m X j u W → VAk B b off lo K a0 a1 a2 c0 c1 c2 kind k m X j u (W.setCell ⟨p, o, none⟩ x) := by
  intro j u W p o x hO h
  have key : ∀ {v : Value} {n : Nat} {xs : List Value}, W.ownsRow lo 114 2 v n xs → (W.setCell ⟨p, o, none⟩ x).ownsRow lo 114 2 v n xs := fun h0 => by
    refine ⟨h0.1, ?_⟩
    rcases h0.2 with q | ⟨g, cap, cur, q1, q2, q3, q4⟩
    · exact Or.inl q
    · refine Or.inr ⟨g, cap, cur, q1, q2, ?_, q4⟩
      rw [Below.heap_setCell W ⟨p, o, none⟩ x g ?_]
      · exact q3
      · intro e
        have e' : g = p := e
        obtain ⟨cs, g1, _⟩ := hO
        rw [e'] at q3
        rw [g1] at q3
        injection q3 with q3
        injection q3 with _ q3 _
        exact absurd q3 (by decide)
  match j, h with
  | 0, h => exact h
  | 1, h => exact h
  | 2, h => exact h
  | 3, h => exact h
  | 4, h => exact h
  | 5, h => exact h
  | 6, h => exact h
  | 7, h => obtain ⟨va, vc, e, h0⟩ := h; exact ⟨va, vc, e, key h0⟩
  | n + 8, _ => trivial

set_option maxRecDepth 8000 in
set_option maxHeartbeats 16000000 in
theorem stewAskS (K : SBk) (a0 a1 a2 : Option Addr) (c0 c1 c2 : Nat) (kind : Int) (w : World) (h : SBkV w a0 a1 a2 K) :
    Calls Tryz.prog 5 #[.int .i64 kind, .agg #[.int .i64 K.now, .slice a0 K.svcs.length c0, .slice a1 K.cps.length c1, .slice a2 K.bts.length c2]] w fun e w' => (∃ v es, e = .returned v ∧ AcsR w' w.heap.size v (askOf kind K) es) ∧ Below w.heap.size w w' := by
  have HH := hid h
  have hl := h.s.len
  unfold maxLen at hl
  clear h
  obtain ⟨i0, hi, hz0, hz1, hz2⟩ := info_parts Tryz.infAs
  obtain ⟨wa, hwa⟩ : ∃ wa, wa = w.alloc (.cells #[.int .i64 K.now, .slice a0 K.svcs.length c0, .slice a1 K.cps.length c1, .slice a2 K.bts.length c2] 34) := ⟨_, rfl⟩
  have HB : Hid (Below w.heap.size w wa) := by show Below _ _ _; rw [hwa]; exact blw_alloc (Below.refl _ _) _
  have HX : Hid (LBox wa w.heap.size [.int .i64 K.now, .slice a0 K.svcs.length c0, .slice a1 K.cps.length c1, .slice a2 K.bts.length c2]) := by show LBox _ _ _; rw [hwa]; exact LBox.new w _ _ _ rfl
  obtain ⟨wb, hwb⟩ : ∃ wb, wb = wa.alloc (.cells #[] 47) := ⟨_, rfl⟩
  have hbb : Below wa.heap.size wa wb := by rw [hwb]; exact blw_alloc (Below.refl _ _) _
  have HR0 : Hid (AcsR wb wa.heap.size (.slice (some ⟨wa.heap.size, 0, none⟩) 0 0) [] []) := by
    refine ⟨rfl, ?_, fun i hi => absurd hi (Nat.not_lt_zero i), fun _ j _ hj => absurd hj (Nat.not_lt_zero j)⟩
    rw [hwb]
    exact World.ownsRow_made wa #[] 0 (Nat.le_refl _) (by decide) rfl
  go_enter Tryz.func5, Tryz.ntmps5
  go_upto_region 1 with fail
  rw [← hwa]
  clear hwa
  go_upto_region 2 with fail
  rw [← hwb]
  clear hwb
  have HXb := hid (HX.out.later hbb)
  have HBb := hid (blw_trans HB.out hbb)
  have hbz : wa.heap.size ≤ wb.heap.size := hbb.size
  have yz := HXb.out.lt
  have y0 := HXb.out.get 0 _ rfl
  have y1 := HXb.out.get 1 _ rfl
  have y2 := HXb.out.get 2 _ rfl
  have y3 := HXb.out.get 3 _ rfl
  go_wp2_with fail
  refine (stewValidS K a0 a1 a2 c0 c1 c2 wb (HH.out.later HBb.out)).mono ?_
  rintro e wc ⟨rfl, hbc⟩
  have HBw := hid (blw_trans hbb hbc)
  have HRc := hid (HR0.out.later hbc)
  have HXc := hid (HXb.out.later hbc)
  clear yz y0 y1 y2 y3 hbb hbc HR0 HXb HBb
  cases hv : sbOk K
  · go_wp2
    go_ret
    exact ⟨⟨_, _, rfl, by rw [askOf, hv]; exact HRc.out.base HB.out.size⟩, blw_trans HB.out HBw.out⟩
  have HV := hid hv
  have HSN := hid (sane_ok hv)
  obtain ⟨hl8, hok⟩ := svs_ok hv
  have HOK := hid hok
  clear hv hok
  go_wp2
  go_loopw [5, 6] (fun v i wr => ∃ (k : Nat) (es : List Value), k ≤ K.svcs.length ∧ i = .int .i64 k ∧ AcsR wr wa.heap.size v (askTo kind K k) es ∧ Below wa.heap.size wa wr) (fun _ i _ => K.svcs.length - (intOf i).toNat)
  case atStart => exact ⟨0, [], Nat.zero_le _, rfl, HRc.out, HBw.out⟩
  case round =>
    rename_i v _ _
    obtain ⟨k, es, hk, rfl, hR, hW⟩ := hrel
    have HR := hid hR
    have HW := hid hW
    obtain ⟨a, c, hv⟩ := owns_slice hR.row
    subst hv
    have HXr := hid (HX.out.later hW)
    clear hR hW
    have yz := HXr.out.lt
    have y1 := HXr.out.get 1 _ rfl
    by_cases hlt : k < K.svcs.length
    · obtain ⟨b, off, ha, hbl, hf⟩ := (HH.out.later (blw_trans HB.out HW.out)).s.at_ k hlt
      obtain ⟨m, hm⟩ : ∃ m, m = K.svcs.getD k Sv.none := ⟨_, rfl⟩
      obtain ⟨X, hX⟩ : ∃ X, X = actAc kind K m := ⟨_, rfl⟩
      have HS : Hid (askTo kind K (k + 1) = askTo kind K k ++ (if asked X then [X] else [])) := by show _ = _; rw [askTo_succ kind K hlt, ← hm, ← hX]
      have hbd := sv_bounds (HOK.out k hlt)
      rw [← hm] at hf hbd
      have HF : Hid (SvIs wr b (off + k * 13) m) := hf
      have HXE := hid hX
      have HBD := hid hbd
      have hln := askTo_len kind K k
      obtain ⟨nn, hnn⟩ : ∃ nn, nn = (askTo kind K k).length := ⟨_, rfl⟩
      rw [← hnn] at hln ⊢
      have HNL := hid hnn
      clear hm hX hf hbd hnn
      have hm0 : (0 : Int) ≤ (k : Int) := by omega
      have hm3 : (k : Int) < (K.svcs.length : Int) := by omega
      go_upto_region 7 with fail
      clear y1 yz
      refine RY.region_letx wr (Below.refl _ _) (VAk w.heap.size b (off + k * 13) wr.heap.size K a0 a1 a2 c0 c1 c2 kind k m X) (VAk_mono w.heap.size b (off + k * 13) wr.heap.size K a0 a1 a2 c0 c1 c2 kind k m X) 8 7 9 7 27 47 8 [.string ByteArray.empty, .int .i64 0, .int .i64 0, .int .i64 0, .int .i64 0, .bool false, .slice none 0 0, .bool false] (VAk_sc w.heap.size b (off + k * 13) wr.heap.size K a0 a1 a2 c0 c1 c2 kind k m X) (by kernel_rfl) (by kernel_rfl) (by kernel_rfl) (by kernel_rfl) _ _ _ rfl rfl rfl rfl rfl rfl rfl (by decide) (by decide) (by kernel_rfl) (by kernel_rfl) rfl ?_ Tryz.infoAct ?_ ?_ ?_
      · intro a W
        kernel_rfl
      · rintro u W ⟨va, vc, rfl, h0⟩
        exact ⟨[_, _, _, _, _, _, _, _], rfl, rfl, by simp [Value.oneCell']⟩
      · intro i o ho nA nS a W hW hk hd
        have hB : Below w.heap.size w W := blw_trans HB.out (blw_trans HW.out hW)
        have hX := HXr.out.later hW
        have yz := hX.lt
        have y1 := hX.get 1 _ rfl
        have et0 : a.tmps[0]?.getD undef = .int .i64 kind := (RY.ev_tmp a 0).trans ((hk 0 (by kernel_rfl)).trans rfl)
        have et3' : a.eval (.tmp 3) = .pointer (some ⟨w.heap.size, 0, none⟩) := (hk 3 (by kernel_rfl)).trans rfl
        have et3 := (RY.ev_tmp a 3).trans et3'
        have et6 : a.tmps[6]?.getD undef = .int .i64 (k : Nat) := (RY.ev_tmp a 6).trans ((hk 6 (by kernel_rfl)).trans rfl)
        match i, ho with
        | 0, ho =>
          injection ho with ho; subst ho
          exact Or.inl ⟨_, W, by simp [execOp, go_sem, et0], Below.refl _ _, rfl⟩
        | 1, ho =>
          injection ho with ho; subst ho
          exact Or.inl ⟨_, W, exec_loadM 34 (.tmp 3) rfl w.heap.size 0 et3' _ _ hX.at_ Tryz.underlying34 rfl (by kernel_rfl), Below.refl _ _, rfl⟩
        | 2, ho =>
          injection ho with ho; subst ho
          exact Or.inl ⟨_, W, by simp [execOp, go_sem, et3], Below.refl _ _, rfl⟩
        | 3, ho =>
          injection ho with ho; subst ho
          have e0 : a.tmps[22]?.getD undef = _ := (RY.ev_tmp a 22).trans (hd 2 _ 22 rfl rfl (by decide) ⟨⟨2, .data⟩, by simp, rfl, rfl⟩)
          exact Or.inl ⟨_, W, by simp [execOp, go_sem, e0, y1], Below.refl _ _, rfl⟩
        | 4, ho =>
          injection ho with ho; subst ho
          exact Or.inl ⟨_, W, by simp [execOp, go_sem, et6], Below.refl _ _, rfl⟩
        | 5, ho =>
          injection ho with ho; subst ho
          have e0 : a.tmps[23]?.getD undef = _ := (RY.ev_tmp a 23).trans (hd 3 _ 23 rfl rfl (by decide) ⟨⟨3, .data⟩, by simp, rfl, rfl⟩)
          have e1 : a.tmps[24]?.getD undef = _ := (RY.ev_tmp a 24).trans (hd 4 _ 24 rfl rfl (by decide) ⟨⟨4, .data⟩, by simp, rfl, rfl⟩)
          rw [ha] at e0
          exact Or.inl ⟨.pointer (some ⟨b, off + k * 13, none⟩), W, by simp [execOp, go_sem, e0, e1, hm0, hm3]; (try (first | omega | (intro hh; omega))), Below.refl _ _, rfl⟩
        | 6, ho =>
          injection ho with ho; subst ho
          have e0 : a.eval (.tmp 25) = .pointer (some ⟨b, off + k * 13, none⟩) := hd 5 _ 25 rfl rfl (by decide) ⟨⟨5, .data⟩, by simp, rfl, rfl⟩
          exact Or.inl ⟨_, W, exec_loadM 50 (.tmp 25) rfl b (off + k * 13) e0 _ _ (svRange (HF.out.later hW hbl)) Tryz.underlying50 rfl (by kernel_rfl), Below.refl _ _, rfl⟩
        | 7, ho =>
          injection ho with ho; subst ho
          have e0 : a.tmps[20]?.getD undef = _ := (RY.ev_tmp a 20).trans (hd 0 _ 20 rfl rfl (by decide) ⟨⟨0, .data⟩, by simp, rfl, rfl⟩)
          have e1 : a.tmps[21]?.getD undef = _ := (RY.ev_tmp a 21).trans (hd 1 _ 21 rfl rfl (by decide) ⟨⟨1, .data⟩, by simp, rfl, rfl⟩)
          have e2 : a.tmps[26]?.getD undef = _ := (RY.ev_tmp a 26).trans (hd 6 _ 26 rfl rfl (by decide) ⟨⟨6, .data⟩, by simp, rfl, rfl⟩)
          obtain ⟨⟨b1, b2, _, _⟩, ⟨b5, b6⟩, _, b8, b9, b10, b11, b12⟩ := HBD.out
          refine Or.inr ⟨17, #[.int .i64 kind, .agg #[.int .i64 K.now, .slice a0 K.svcs.length c0, .slice a1 K.cps.length c1, .slice a2 K.bts.length c2], .agg #[.string m.nm, .int .i64 m.ver, .bool m.gone, .int .i64 m.image, .int .i64 m.want, .int .i64 m.down, .int .i64 m.over, .int .i64 m.next, .int .i64 m.per, .int .i64 m.least, .int .i64 m.most, .int .i64 m.load, .int .i64 m.cool]], by simp [go_sem, e0, e1, e2], (l16ActS K a0 a1 a2 c0 c1 c2 kind m W (HH.out.later hB) HSN.out b1 (by omega) b5 (by omega) b8 b9 b10 b11 (by omega)).mono ?_⟩
          rintro e W' ⟨⟨va, vn, vc, rfl, ho⟩, hb⟩
          rw [← HXE.out] at ho ⊢
          obtain ⟨a', c', e'⟩ := owns_slice ho
          rw [e'] at ho ⊢
          have q := act_svc kind K m
          rw [← HXE.out] at q
          refine ⟨_, rfl, hb, a', c', ?_, owns_base ho hW.size⟩
          rw [q.1, q.2]
        | 8, ho => exact absurd rfl nA
        | 9, ho => exact absurd rfl nS
        | n + 10, ho => simp at ho
      intro w1 vs p hW1 hvs hp hpv hpo hpr
      obtain ⟨va, vc, e7, ho1⟩ := hvs 7 _ 27 rfl rfl (by decide)
      have HP1 : Hid (LBox w1 p [.string X.svc, .int .i64 X.seen, .int .i64 X.create, .int .i64 X.want, .int .i64 X.cool, .bool X.scale, .slice va X.ends.length vc, .bool X.drop]) := ⟨hpo.lt, hpr [.string X.svc, .int .i64 X.seen, .int .i64 X.create, .int .i64 X.want, .int .i64 X.cool, .bool X.scale, .slice va X.ends.length vc, .bool X.drop] e7⟩
      have HO1 := hid ho1
      have HB1 := hid hW1
      have hs1 : wa.heap.size ≤ w1.heap.size := Nat.le_trans HW.out.size hW1.size
      simp only [RY.putAll, Act.put, List.setIfInBounds_toArray, List.set_cons_zero, List.set_cons_succ]
      rw [hp]
      generalize vs 20 = z20
      generalize vs 21 = z21
      generalize vs 22 = z22
      generalize vs 23 = z23
      generalize vs 24 = z24
      generalize vs 25 = z25
      generalize vs 26 = z26
      generalize vs 27 = z27
      clear hvs hp e7 ho1 hW1 hpv hpo hpr HF HXE HBD ha hbl HXr
      have dz := HP1.out.lt
      have d0 := HP1.out.get 0 _ rfl
      have d1 := HP1.out.get 1 _ rfl
      have d2 := HP1.out.get 2 _ rfl
      have d3 := HP1.out.get 3 _ rfl
      have d4 := HP1.out.get 4 _ rfl
      have d5 := HP1.out.get 5 _ rfl
      have d6 := HP1.out.get 6 _ rfl
      have d7 := HP1.out.get 7 _ rfl
      by_cases x1 : 0 < X.create
      · have HA : Hid (asked X = true) := by show _ = _; simp [asked, x1]
        have HQ : Hid (askTo kind K (k + 1) = askTo kind K k ++ [X]) := by show _ = _; rw [HS.out, if_pos HA.out]
        clear HS
        go_wp2_with (at_builtin; refine wpList_append_own _ rfl _ _ 28 rfl wa.heap.size 47 i0 _ 8 88 Tryz.undAs hi hz0 hz1 hz2 rfl (by decide) (.slice a nn c) nn (acsC (askTo kind K k) es) rfl ?h1a ⟨w1.heap.size, 0, none⟩ 1 1 [.string X.svc, .int .i64 X.seen, .int .i64 X.create, .int .i64 X.want, .int .i64 X.cool, .bool X.scale, .slice va X.ends.length vc, .bool X.drop] rfl ?h1b ?h1c ?h1d ?h1e ?h1f ?h1g ?_)
        case h1a => rw [HNL.out]; exact owns_later (HR.out.later HB1.out).row (blw_alloc (Below.refl _ _) _)
        try (case h1b => rfl)
        try (case h1c => exact World.news_of_block (World.alloc_heap_new _ _))
        case h1d => first | exact ⟨rfl, rfl, rfl, rfl, rfl, rfl, rfl, rfl⟩ | (intro u hu; simp at hu; rcases hu with rfl | rfl | rfl | rfl | rfl | rfl | rfl | rfl <;> rfl)
        case h1e => unfold maxLen; omega
        case h1f => omega
        case h1g => first | omega | (simp; omega)
        intro v' w3 hown hgrow _
        have eN : AcC X (.slice va X.ends.length vc) = [.string X.svc, .int .i64 X.seen, .int .i64 X.create, .int .i64 X.want, .int .i64 X.cool, .bool X.scale, .slice va X.ends.length vc, .bool X.drop] := by simp [AcC]
        rw [← eN] at hown
        have hbt : Below wr.heap.size wr (w1.alloc (.cells #[.string X.svc, .int .i64 X.seen, .int .i64 X.create, .int .i64 X.want, .int .i64 X.cool, .bool X.scale, .slice va X.ends.length vc, .bool X.drop] 47)) := blw_trans HB1.out (blw_alloc (Below.refl _ _) _)
        rw [HNL.out] at hown
        have HN2 : Hid (AcsR w3 wa.heap.size v' (askTo kind K (k + 1)) (es ++ [.slice va X.ends.length vc])) := by
          rw [HQ.out]
          exact HR.out.push hbt (owns_later HO1.out (blw_alloc (Below.refl _ _) _)) HW.out.size hown (by rw [HNL.out] at hgrow; exact hgrow)
        have HB3 : Hid (Below wa.heap.size wa w3) := by
          refine Below.grown (blw_trans HW.out hbt) hgrow (blw_trans HW.out hbt).size (fun q hq => ?_)
          rw [HNL.out] at hq
          exact (World.ownsRow.lt HR.out.row q hq).1
        clear hown hgrow hbt
        go_wp2
        go_roundw
        case rel => exact ⟨k + 1, _, by omega, by go_num, HN2.out, HB3.out⟩
        case measure => simp [intOf]; omega
      rcases (Bool.eq_false_or_eq_true X.scale) with x2 | x2
      · have HA : Hid (asked X = true) := by show _ = _; simp [asked, x2]
        rw [x2] at d5
        have HX2 := hid x2
        clear x2
        have HQ : Hid (askTo kind K (k + 1) = askTo kind K k ++ [X]) := by show _ = _; rw [HS.out, if_pos HA.out]
        clear HS
        go_wp2_with (at_builtin; refine wpList_append_own _ rfl _ _ 28 rfl wa.heap.size 47 i0 _ 8 88 Tryz.undAs hi hz0 hz1 hz2 rfl (by decide) (.slice a nn c) nn (acsC (askTo kind K k) es) rfl ?h2a ⟨w1.heap.size, 0, none⟩ 1 1 [.string X.svc, .int .i64 X.seen, .int .i64 X.create, .int .i64 X.want, .int .i64 X.cool, .bool true, .slice va X.ends.length vc, .bool X.drop] rfl ?h2b ?h2c ?h2d ?h2e ?h2f ?h2g ?_)
        case h2a => rw [HNL.out]; exact owns_later (HR.out.later HB1.out).row (blw_alloc (Below.refl _ _) _)
        try (case h2b => rfl)
        try (case h2c => exact World.news_of_block (World.alloc_heap_new _ _))
        case h2d => first | exact ⟨rfl, rfl, rfl, rfl, rfl, rfl, rfl, rfl⟩ | (intro u hu; simp at hu; rcases hu with rfl | rfl | rfl | rfl | rfl | rfl | rfl | rfl <;> rfl)
        case h2e => unfold maxLen; omega
        case h2f => omega
        case h2g => first | omega | (simp; omega)
        intro v' w3 hown hgrow _
        have eN : AcC X (.slice va X.ends.length vc) = [.string X.svc, .int .i64 X.seen, .int .i64 X.create, .int .i64 X.want, .int .i64 X.cool, .bool true, .slice va X.ends.length vc, .bool X.drop] := by simp [AcC, HX2.out]
        rw [← eN] at hown
        have hbt : Below wr.heap.size wr (w1.alloc (.cells #[.string X.svc, .int .i64 X.seen, .int .i64 X.create, .int .i64 X.want, .int .i64 X.cool, .bool true, .slice va X.ends.length vc, .bool X.drop] 47)) := blw_trans HB1.out (blw_alloc (Below.refl _ _) _)
        rw [HNL.out] at hown
        have HN2 : Hid (AcsR w3 wa.heap.size v' (askTo kind K (k + 1)) (es ++ [.slice va X.ends.length vc])) := by
          rw [HQ.out]
          exact HR.out.push hbt (owns_later HO1.out (blw_alloc (Below.refl _ _) _)) HW.out.size hown (by rw [HNL.out] at hgrow; exact hgrow)
        have HB3 : Hid (Below wa.heap.size wa w3) := by
          refine Below.grown (blw_trans HW.out hbt) hgrow (blw_trans HW.out hbt).size (fun q hq => ?_)
          rw [HNL.out] at hq
          exact (World.ownsRow.lt HR.out.row q hq).1
        clear hown hgrow hbt
        go_wp2
        go_roundw
        case rel => exact ⟨k + 1, _, by omega, by go_num, HN2.out, HB3.out⟩
        case measure => simp [intOf]; omega
      rw [x2] at d5
      have HX2 := hid x2
      clear x2
      by_cases x3 : 0 < X.ends.length
      · have HA : Hid (asked X = true) := by show _ = _; simp [asked, x3]
        have HQ : Hid (askTo kind K (k + 1) = askTo kind K k ++ [X]) := by show _ = _; rw [HS.out, if_pos HA.out]
        clear HS
        go_wp2_with (at_builtin; refine wpList_append_own _ rfl _ _ 28 rfl wa.heap.size 47 i0 _ 8 88 Tryz.undAs hi hz0 hz1 hz2 rfl (by decide) (.slice a nn c) nn (acsC (askTo kind K k) es) rfl ?h3a ⟨w1.heap.size, 0, none⟩ 1 1 [.string X.svc, .int .i64 X.seen, .int .i64 X.create, .int .i64 X.want, .int .i64 X.cool, .bool false, .slice va X.ends.length vc, .bool X.drop] rfl ?h3b ?h3c ?h3d ?h3e ?h3f ?h3g ?_)
        case h3a => rw [HNL.out]; exact owns_later (HR.out.later HB1.out).row (blw_alloc (Below.refl _ _) _)
        try (case h3b => rfl)
        try (case h3c => exact World.news_of_block (World.alloc_heap_new _ _))
        case h3d => first | exact ⟨rfl, rfl, rfl, rfl, rfl, rfl, rfl, rfl⟩ | (intro u hu; simp at hu; rcases hu with rfl | rfl | rfl | rfl | rfl | rfl | rfl | rfl <;> rfl)
        case h3e => unfold maxLen; omega
        case h3f => omega
        case h3g => first | omega | (simp; omega)
        intro v' w3 hown hgrow _
        have eN : AcC X (.slice va X.ends.length vc) = [.string X.svc, .int .i64 X.seen, .int .i64 X.create, .int .i64 X.want, .int .i64 X.cool, .bool false, .slice va X.ends.length vc, .bool X.drop] := by simp [AcC, HX2.out]
        rw [← eN] at hown
        have hbt : Below wr.heap.size wr (w1.alloc (.cells #[.string X.svc, .int .i64 X.seen, .int .i64 X.create, .int .i64 X.want, .int .i64 X.cool, .bool false, .slice va X.ends.length vc, .bool X.drop] 47)) := blw_trans HB1.out (blw_alloc (Below.refl _ _) _)
        rw [HNL.out] at hown
        have HN2 : Hid (AcsR w3 wa.heap.size v' (askTo kind K (k + 1)) (es ++ [.slice va X.ends.length vc])) := by
          rw [HQ.out]
          exact HR.out.push hbt (owns_later HO1.out (blw_alloc (Below.refl _ _) _)) HW.out.size hown (by rw [HNL.out] at hgrow; exact hgrow)
        have HB3 : Hid (Below wa.heap.size wa w3) := by
          refine Below.grown (blw_trans HW.out hbt) hgrow (blw_trans HW.out hbt).size (fun q hq => ?_)
          rw [HNL.out] at hq
          exact (World.ownsRow.lt HR.out.row q hq).1
        clear hown hgrow hbt
        go_wp2
        go_roundw
        case rel => exact ⟨k + 1, _, by omega, by go_num, HN2.out, HB3.out⟩
        case measure => simp [intOf]; omega
      rcases (Bool.eq_false_or_eq_true X.drop) with x4 | x4
      · have HA : Hid (asked X = true) := by show _ = _; simp [asked, x4]
        rw [x4] at d7
        have HX4 := hid x4
        clear x4
        have HQ : Hid (askTo kind K (k + 1) = askTo kind K k ++ [X]) := by show _ = _; rw [HS.out, if_pos HA.out]
        clear HS
        go_wp2_with (at_builtin; refine wpList_append_own _ rfl _ _ 28 rfl wa.heap.size 47 i0 _ 8 88 Tryz.undAs hi hz0 hz1 hz2 rfl (by decide) (.slice a nn c) nn (acsC (askTo kind K k) es) rfl ?h4a ⟨w1.heap.size, 0, none⟩ 1 1 [.string X.svc, .int .i64 X.seen, .int .i64 X.create, .int .i64 X.want, .int .i64 X.cool, .bool false, .slice va X.ends.length vc, .bool true] rfl ?h4b ?h4c ?h4d ?h4e ?h4f ?h4g ?_)
        case h4a => rw [HNL.out]; exact owns_later (HR.out.later HB1.out).row (blw_alloc (Below.refl _ _) _)
        try (case h4b => rfl)
        try (case h4c => exact World.news_of_block (World.alloc_heap_new _ _))
        case h4d => first | exact ⟨rfl, rfl, rfl, rfl, rfl, rfl, rfl, rfl⟩ | (intro u hu; simp at hu; rcases hu with rfl | rfl | rfl | rfl | rfl | rfl | rfl | rfl <;> rfl)
        case h4e => unfold maxLen; omega
        case h4f => omega
        case h4g => first | omega | (simp; omega)
        intro v' w3 hown hgrow _
        have eN : AcC X (.slice va X.ends.length vc) = [.string X.svc, .int .i64 X.seen, .int .i64 X.create, .int .i64 X.want, .int .i64 X.cool, .bool false, .slice va X.ends.length vc, .bool true] := by simp [AcC, HX2.out, HX4.out]
        rw [← eN] at hown
        have hbt : Below wr.heap.size wr (w1.alloc (.cells #[.string X.svc, .int .i64 X.seen, .int .i64 X.create, .int .i64 X.want, .int .i64 X.cool, .bool false, .slice va X.ends.length vc, .bool true] 47)) := blw_trans HB1.out (blw_alloc (Below.refl _ _) _)
        rw [HNL.out] at hown
        have HN2 : Hid (AcsR w3 wa.heap.size v' (askTo kind K (k + 1)) (es ++ [.slice va X.ends.length vc])) := by
          rw [HQ.out]
          exact HR.out.push hbt (owns_later HO1.out (blw_alloc (Below.refl _ _) _)) HW.out.size hown (by rw [HNL.out] at hgrow; exact hgrow)
        have HB3 : Hid (Below wa.heap.size wa w3) := by
          refine Below.grown (blw_trans HW.out hbt) hgrow (blw_trans HW.out hbt).size (fun q hq => ?_)
          rw [HNL.out] at hq
          exact (World.ownsRow.lt HR.out.row q hq).1
        clear hown hgrow hbt
        go_wp2
        go_roundw
        case rel => exact ⟨k + 1, _, by omega, by go_num, HN2.out, HB3.out⟩
        case measure => simp [intOf]; omega
      have HA : Hid (asked X = false) := by show _ = _; unfold asked; rw [HX2.out, x4, decide_eq_false x1, decide_eq_false x3]; rfl
      have HQ : Hid (askTo kind K (k + 1) = askTo kind K k) := by show _ = _; rw [HS.out, HA.out]; simp
      rw [x4] at d7
      clear HS x4
      go_wp2
      go_roundw
      case rel => exact ⟨k + 1, es, by omega, by go_num, by rw [HQ.out, HNL.out]; exact HR.out.later HB1.out, blw_trans HW.out HB1.out⟩
      case measure => simp [intOf]; omega
    · obtain rfl : k = K.svcs.length := by omega
      go_wp2
      go_ret
      exact ⟨⟨_, _, rfl, by rw [askOf, if_pos HV.out]; exact HR.out.base HB.out.size⟩, blw_trans HB.out HW.out⟩

end Go.Proofs.YtamhfnlogldpaaaGreat
