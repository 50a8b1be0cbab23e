/-
  Sheets: the place of a key, what fits: the specification.
-/
import Derived.Test.YtikacjpbnoihjaaEFc
import Derived.Test.YtikacjpbnoihjaaERu
namespace Go.Proofs.Ytikacjpbnoihjaa
open Go.RowKit Go.Deep

theorem ruD_len (r : Pl.Ru) : (ruD r).length = 4 := rfl
/-- One of the rules that were told. -/
theorem rule_at {W : World} {l : List Pl.Ru} {v : Value} (h : Raw W [.row 48 shSheetRule] [rulesD l] [v]) {k : Nat} (hk : k < l.length) : ∃ p o c a1 c1 v3, v = .slice (some ⟨p, o, none⟩) l.length c ∧ p < W.heap.size ∧ W.rangeAt p (o + k * 4) [.string (l.getD k Pl.ruNo).key, .slice a1 (l.getD k Pl.ruNo).args.length c1, .bool (l.getD k Pl.ruNo).many, v3] ∧ Raw W [.row 3 [.i]] [.row (l.getD k Pl.ruNo).args.length ((l.getD k Pl.ruNo).args.map .i)] [.slice a1 (l.getD k Pl.ruNo).args.length c1] ∧ Raw W [.row 9 [.s]] [.row (l.getD k Pl.ruNo).dflt.length (txD (l.getD k Pl.ruNo).dflt)] [v3] := by
  rcases h.slice with ⟨e0, _⟩ | ⟨p, o, c, hv, hp, _, vs, hr, hR⟩
  · omega
  · obtain ⟨ve, hE, hg⟩ := hR.el hk hr
    have e : el shSheetRule.length k (l.flatMap ruD) = ruD (l.getD k Pl.ruNo) := el_flat Pl.ruNo ruD 4 ruD_len l k hk
    rw [e] at hE
    obtain ⟨v1, v3, hc, r1, r3⟩ := rawSheetRule hE
    subst hc
    obtain ⟨a1, c1, h1⟩ := r1.len0
    subst h1
    exact ⟨p, o, c, a1, c1, v3, hv, hp, hg, r1, r3⟩

set_option maxHeartbeats 4000000 in
theorem l38RuleS (kind key : ByteArray) (w : World) :
    Calls Try.prog 15 #[.string kind, .string key] w fun e w' => e = .returned (.int .i64 (Pl.ixI (Pl.ruIx (Pl.rulesOf kind) key))) ∧ Below w.heap.size w w' := by
  have HC := uh (fun W => sheetRulesS kind W)
  obtain ⟨l, hl⟩ : ∃ l, l = Pl.rulesOf kind := ⟨_, rfl⟩
  have hl100 : l.length ≤ 100 := by
    rw [hl]; unfold Pl.rulesOf
    split
    · decide
    · split
      · decide
      · split <;> decide
  rw [← hl] at HC ⊢
  clear hl
  go_enter Try.func15, Try.ntmps15
  go_wp2_with fail
  refine (HC.out _).mono ?_
  rintro e w1 ⟨v, F, rfl, hr, nd, lo, hb⟩
  have HR := uh hr.raw
  have HB := uh hb
  obtain ⟨va, vc, hv⟩ := hr.raw.len0
  subst hv
  clear hr nd lo hb HC
  go_wp2
  go_loop [6] (fun i => ∃ k : Nat, k ≤ l.length ∧ i = .int .i64 k ∧ Pl.ruIx l key = Pl.ruIxF key (l.drop k) k) (fun i => l.length - (intOf i).toNat)
  case atStart => exact ⟨0, Nat.zero_le _, rfl, rfl⟩
  case round =>
    obtain ⟨k, hk, rfl, hI⟩ := hrel
    have HI := uh hI
    clear hI
    by_cases hlt : k < l.length
    · obtain ⟨p, o, c, a1, c1, v3, hv, hp, hg, _, _⟩ := rule_at HR.out hlt
      injection hv with e1 _ e3
      subst e1; subst e3
      have y0 : w1.cell? ⟨p, o + k * 4, none⟩ = some (.string (l.getD k Pl.ruNo).key) := rA_get hg 0 _ rfl
      have hk0 : (0 : Int) ≤ (k : Int) := by omega
      have hkn : (k : Int) < (l.length : Int) := by omega
      have HM := uh (fun h => Pl.ruIx_miss hlt HI.out h)
      have HH := uh (fun h => Pl.ruIx_hit hlt HI.out h)
      obtain ⟨x, hx⟩ : ∃ x, x = (l.getD k Pl.ruNo).key := ⟨_, rfl⟩
      rw [← hx] at y0 HM HH
      clear hx hg
      cases hq : (x.toList == key.toList)
      · have HX := uh (HM.out hq)
        go_wp2
        go_round
        case rel => exact ⟨k + 1, by omega, by go_num, HX.out⟩
        case measure => simp [intOf]; omega
      · have HX : Hid ((k : Int) = Pl.ixI (Pl.ruIx l key)) := by show _ = _; rw [HH.out hq]; rfl
        go_wp2
        go_ret
        exact ⟨Pl.ret_int HX.out, HB.out⟩
    · obtain rfl : k = l.length := by omega
      have HX : Hid (-1 = Pl.ixI (Pl.ruIx l key)) := by show _ = _; rw [Pl.ruIx_end HI.out]; rfl
      go_wp2
      go_ret
      exact ⟨Pl.ret_int HX.out, HB.out⟩
def VFi (va vb : Value) (p1 o1 p2 o2 k : Nat) (z : Int) (x : ByteArray) (b : Bool) : Nat → Value → World → Prop
  | 0, u, _ => u = va
  | 1, u, _ => u = .int .i64 (k : Int)
  | 2, u, _ => u = .pointer (some ⟨p1, o1 + k, none⟩)
  | 3, u, _ => u = .int .i64 z
  | 4, u, _ => u = vb
  | 5, u, _ => u = .int .i64 (k : Int)
  | 6, u, _ => u = .pointer (some ⟨p2, o2 + k, none⟩)
  | 7, u, _ => u = .string x
  | 8, u, _ => u = .bool b
  | 9, u, _ => u = .bool (!b)
  | _, _, _ => True
theorem VFi_mono (va vb : Value) (p1 o1 p2 o2 k : Nat) (z : Int) (x : ByteArray) (b : Bool) : ∀ j u W W', Below W.heap.size W W' → VFi va vb p1 o1 p2 o2 k z x b j u W → VFi va vb p1 o1 p2 o2 k z x b j u W' := by
  intro j u W W' hb h
  match j with
  | 0 => exact h
  | 1 => exact h
  | 2 => exact h
  | 3 => exact h
  | 4 => exact h
  | 5 => exact h
  | 6 => exact h
  | 7 => exact h
  | 8 => exact h
  | 9 => exact h
  | n + 10 => exact trivial

set_option maxRecDepth 8000 in
set_option maxHeartbeats 8000000 in
theorem sheetFitsS (kind key : ByteArray) (ws : List ByteArray) (wv : Value) (w : World) (hw : Raw w [.row 9 [.s]] [.row ws.length (txD ws)] [wv]) (hs : ∀ x ∈ ws, x.size ≤ maxLen) :
    Calls Try.prog 54 #[.string kind, .string key, wv] w fun e w' => e = .returned (.bool (Pl.sheetFits kind key ws)) ∧ Below w.heap.size w w' := by
  have HW := uh hw
  have HSZ := uh hs
  obtain ⟨wa2, wc2, hwv⟩ := hw.len0
  subst hwv
  have HCR := uh (fun W => l38RuleS kind key W)
  have HC := uh (fun W => sheetRulesS kind W)
  have HF : Hid (Pl.sheetFits kind key ws = match Pl.ruIx (Pl.rulesOf kind) key with
      | none => false
      | some j => Pl.fitsW ((Pl.rulesOf kind).getD j Pl.ruNo).args ws) := rfl
  obtain ⟨l, hl⟩ : ∃ l, l = Pl.rulesOf kind := ⟨_, rfl⟩
  rw [← hl] at HC HCR HF
  clear hl hw hs
  cases hix : Pl.ruIx l key with
  | none =>
    rw [hix] at HCR HF
    have hm : Pl.ixI none = -1 := rfl
    rw [hm] at HCR
    clear hm
    go_enter Try.func54, Try.ntmps54
    go_wp2_with (go_at_call 15; refine (HCR.out _).mono ?_; rintro e w1 ⟨rfl, hb⟩)
    go_ret
    exact ⟨Pl.ret_bool HF.out.symm, hb⟩
  | some j =>
    have hj := Pl.ruIx_lt hix
    rw [hix] at HCR HF
    have hm : Pl.ixI (some j) = (j : Int) := rfl
    rw [hm] at HCR
    clear hm hix
    have hj0 : ¬ (j : Int) < 0 := by omega
    have hj1 : (0 : Int) ≤ (j : Int) := by omega
    have hjn : (j : Int) < (l.length : Int) := by omega
    go_enter Try.func54, Try.ntmps54
    go_wp2_with fail
    refine (HCR.out _).mono ?_
    rintro e w1 ⟨rfl, hb1⟩
    go_wp2_with fail
    refine (HC.out _).mono ?_
    rintro e w2 ⟨v, F, rfl, hr, nd, lo, hb2⟩
    obtain ⟨p, o, c, a1, c1, v3, hv, hp, hg, hA, _⟩ := rule_at hr.raw hj
    subst hv
    have y1 : w2.cell? ⟨p, o + j * 4 + 1, none⟩ = some (.slice a1 (l.getD j Pl.ruNo).args.length c1) := rA_get hg 1 _ rfl
    have HA := uh hA
    have HB : Hid (Below w.heap.size w w2) := blw_trans hb1 hb2
    obtain ⟨ag, has⟩ : ∃ ag, ag = (l.getD j Pl.ruNo).args := ⟨_, rfl⟩
    have HF2 : Hid (Pl.sheetFits kind key ws = Pl.fitsW ag ws) := by show _ = _; rw [HF.out, has]
    rw [← has] at y1 HA
    clear has hr nd lo hb1 hb2 hg hA HC HCR HF
    by_cases hlen : ag.length = ws.length
    rotate_left
    · have hne : ((ag.length : Int) != (ws.length : Int)) = true := by simp; omega
      have HX : Hid (Pl.sheetFits kind key ws = false) := by show _ = _; rw [HF2.out, Pl.fitsW]; simp [hlen]
      clear hlen
      go_wp2
      go_ret
      exact ⟨Pl.ret_bool HX.out.symm, HB.out⟩
    have HX : Hid (Pl.sheetFits kind key ws = Pl.fitsA ag ws) := by show _ = _; rw [HF2.out, Pl.fitsW]; simp [hlen]
    rw [hlen] at y1 HA
    obtain ⟨n, hn⟩ : ∃ n, n = ws.length := ⟨_, rfl⟩
    have HWN : Hid (Raw w2 [.row 9 [.s]] [.row n (txD ws)] [.slice wa2 n wc2]) := by show Raw _ _ _ _; rw [hn]; exact HW.out.later HB.out
    rw [← hn] at y1 HA hlen ⊢
    have HLN : Hid (ag.length = n ∧ ws.length = n) := ⟨hlen, hn.symm⟩
    have hne : ((n : Int) != (n : Int)) = false := by simp
    clear hn hlen HF2 HW
    go_wp2
    go_loopw [9] (fun i wr => ∃ k : Nat, k ≤ n ∧ i = .int .i64 k ∧ Below w2.heap.size w2 wr ∧ Pl.fitsA ag ws = Pl.fitsA (ag.drop k) (ws.drop k)) (fun i _ => n - (intOf i).toNat)
    case atStart => exact ⟨0, Nat.zero_le _, rfl, Below.refl _ _, rfl⟩
    case round =>
      obtain ⟨k, hk, rfl, hbr, hI⟩ := hrel
      have HBR := uh hbr
      have HI := uh hI
      clear hbr hI y1
      by_cases hlt : k < n
      rotate_left
      · obtain rfl : k = n := by omega
        have HE : Hid (Pl.sheetFits kind key ws = true) := by
          show _ = _
          rw [HX.out, HI.out, List.drop_of_length_le (by have := HLN.out.1; omega), Pl.fitsA]
          intro _ _ _ _ h; cases h
        go_wp2
        go_ret
        exact ⟨Pl.ret_bool HE.out.symm, blw_trans HB.out HBR.out⟩
      have HS := uh (@Pl.fitsA_at ag ws k (by have := HLN.out.1; omega) (by have := HLN.out.2; omega))
      obtain ⟨z, hz⟩ : ∃ z, z = ag.getD k 0 := ⟨_, rfl⟩
      obtain ⟨x, hx⟩ : ∃ x, x = ws.getD k ⟨#[]⟩ := ⟨_, rfl⟩
      have hxs : x.size ≤ maxLen := by
        have hkl : k < ws.length := by have := HLN.out.2; omega
        have e : ws.getD k ⟨#[]⟩ = ws[k] := by simp [hkl]
        rw [hx, e]; exact HSZ.out _ (List.getElem_mem hkl)
      have HCF := uh (fun W => l38FitsS z x W hxs)
      rcases (HA.out.later HBR.out).slice with ⟨e0, _⟩ | ⟨p1, o1, c1', hv1, hp1, _, vs1, hr1, hR1⟩
      · omega
      rcases (HWN.out.later HBR.out).slice with ⟨e0, _⟩ | ⟨p2, o2, c2', hv2, hp2, hml, vs2, hr2, hR2⟩
      · omega
      have hmx := hml.1
      unfold maxLen at hmx
      clear hml
      injection hv1 with g1 _ g3
      injection hv2 with k1 _ k3
      subst g1; subst g3; subst k1; subst k3
      obtain ⟨ve1, hE1, hg1⟩ := hR1.el hlt hr1
      obtain ⟨ve2, hE2, hg2⟩ := hR2.el hlt hr2
      have hel1 : el 1 k (ag.map Dt.i) = [.i z] := by rw [hz]; exact el_map1 0 Dt.i ag k (by have := HLN.out.1; omega)
      have hel2 : el 1 k (txD ws) = [.s x] := by rw [hx]; exact el_map1 ⟨#[]⟩ Dt.s ws k (by have := HLN.out.2; omega)
      have hE1' : Raw wr [.i] [.i z] ve1 := by rw [← hel1]; exact hE1
      have hE2' : Raw wr [.s] [.s x] ve2 := by rw [← hel2]; exact hE2
      obtain rfl := rawN1 hE1'
      obtain rfl := rawT1 hE2'
      have y1 : wr.cell? ⟨p1, o1 + k, none⟩ = some (.int .i64 z) := by have := rA_get hg1 0 _ rfl; simpa using this
      have y2 : wr.cell? ⟨p2, o2 + k, none⟩ = some (.string x) := by have := rA_get hg2 0 _ rfl; simpa using this
      have HK : Hid (wr.cell? ⟨p1, o1 + k, none⟩ = some (.int .i64 z) ∧ wr.cell? ⟨p2, o2 + k, none⟩ = some (.string x) ∧ p1 < wr.heap.size ∧ p2 < wr.heap.size) := ⟨y1, y2, hp1, hp2⟩
      rw [← hz, ← hx] at HS
      obtain ⟨b, hbb⟩ : ∃ b, b = Pl.fitsT z x := ⟨_, rfl⟩
      rw [← hbb] at HS
      have HC : Hid (∀ W, Calls Try.prog 69 #[.int .i64 z, .string x] W fun e w' => e = .returned (.bool b) ∧ Below W.heap.size W w') := by rw [hbb]; exact HCF.out
      have hk0 : (0 : Int) ≤ (k : Int) := by omega
      have hkn : (k : Int) < (n : Int) := by omega
      clear hR1 hR2 hr1 hr2 hE1 hE2 hE1' hE2' hel1 hel2 hg1 hg2 hz hx hbb HCF y1 y2 hp1 hp2 hxs
      go_upto_region 10 with fail
      refine RY.region_past wr (Below.refl _ _) (VFi (.slice (some ⟨p1, o1, none⟩) n c1) (.slice (some ⟨p2, o2, none⟩) n wc2) p1 o1 p2 o2 k z x b) (VFi_mono _ _ _ _ _ _ _ _ _ _) (by kernel_rfl) (by kernel_rfl) (by kernel_rfl) (by kernel_rfl) ?_ ?_
      · intro i o' ho a X hX hk hd
        have ya : X.cell? ⟨p1, o1 + k, none⟩ = some (.int .i64 z) := (hX.cell (p := ⟨p1, o1 + k, none⟩) HK.out.2.2.1).trans HK.out.1
        have yb : X.cell? ⟨p2, o2 + k, none⟩ = some (.string x) := (hX.cell (p := ⟨p2, o2 + k, none⟩) HK.out.2.2.2).trans HK.out.2.1
        match i, ho with
        | 0, ho =>
          injection ho with ho; subst ho
          have e8 : a.tmps[8]?.getD undef = .slice (some ⟨p1, o1, none⟩) n c1 := (RY.ev_tmp a 8).trans ((hk 8 (by kernel_rfl)).trans rfl)
          exact Or.inl ⟨.slice (some ⟨p1, o1, none⟩) n c1, X, by simp [execOp, go_sem, e8], Below.refl _ _, rfl⟩
        | 1, ho =>
          injection ho with ho; subst ho
          have e9 : a.tmps[9]?.getD undef = .int .i64 (k : Int) := (RY.ev_tmp a 9).trans ((hk 9 (by kernel_rfl)).trans rfl)
          exact Or.inl ⟨.int .i64 (k : Int), X, by simp [execOp, go_sem, e9], Below.refl _ _, rfl⟩
        | 2, ho =>
          injection ho with ho; subst ho
          have e32 : a.tmps[32]?.getD undef = _ := (RY.ev_tmp a 32).trans (hd 0 _ 32 rfl rfl ⟨⟨0, .data⟩, by simp, rfl, rfl⟩)
          have e33 : a.tmps[33]?.getD undef = _ := (RY.ev_tmp a 33).trans (hd 1 _ 33 rfl rfl ⟨⟨1, .data⟩, by simp, rfl, rfl⟩)
          exact Or.inl ⟨.pointer (some ⟨p1, o1 + k, none⟩), X, by simp [execOp, go_sem, e32, e33, hk0, hkn], Below.refl _ _, rfl⟩
        | 3, ho =>
          injection ho with ho; subst ho
          have e34 : a.tmps[34]?.getD undef = _ := (RY.ev_tmp a 34).trans (hd 2 _ 34 rfl rfl ⟨⟨2, .data⟩, by simp, rfl, rfl⟩)
          exact Or.inl ⟨.int .i64 z, X, by simp [execOp, go_sem, e34, ya], Below.refl _ _, rfl⟩
        | 4, ho =>
          injection ho with ho; subst ho
          have e2 : a.tmps[2]?.getD undef = .slice (some ⟨p2, o2, none⟩) n wc2 := (RY.ev_tmp a 2).trans ((hk 2 (by kernel_rfl)).trans rfl)
          exact Or.inl ⟨.slice (some ⟨p2, o2, none⟩) n wc2, X, by simp [execOp, go_sem, e2], Below.refl _ _, rfl⟩
        | 5, ho =>
          injection ho with ho; subst ho
          have e9 : a.tmps[9]?.getD undef = .int .i64 (k : Int) := (RY.ev_tmp a 9).trans ((hk 9 (by kernel_rfl)).trans rfl)
          exact Or.inl ⟨.int .i64 (k : Int), X, by simp [execOp, go_sem, e9], Below.refl _ _, rfl⟩
        | 6, ho =>
          injection ho with ho; subst ho
          have e36 : a.tmps[36]?.getD undef = _ := (RY.ev_tmp a 36).trans (hd 4 _ 36 rfl rfl ⟨⟨4, .data⟩, by simp, rfl, rfl⟩)
          have e37 : a.tmps[37]?.getD undef = _ := (RY.ev_tmp a 37).trans (hd 5 _ 37 rfl rfl ⟨⟨5, .data⟩, by simp, rfl, rfl⟩)
          exact Or.inl ⟨.pointer (some ⟨p2, o2 + k, none⟩), X, by simp [execOp, go_sem, e36, e37, hk0, hkn], Below.refl _ _, rfl⟩
        | 7, ho =>
          injection ho with ho; subst ho
          have e38 : a.tmps[38]?.getD undef = _ := (RY.ev_tmp a 38).trans (hd 6 _ 38 rfl rfl ⟨⟨6, .data⟩, by simp, rfl, rfl⟩)
          exact Or.inl ⟨.string x, X, by simp [execOp, go_sem, e38, yb], Below.refl _ _, rfl⟩
        | 8, ho =>
          injection ho with ho; subst ho
          have e35 : a.tmps[35]?.getD undef = _ := (RY.ev_tmp a 35).trans (hd 3 _ 35 rfl rfl ⟨⟨3, .data⟩, by simp, rfl, rfl⟩)
          have e39 : a.tmps[39]?.getD undef = _ := (RY.ev_tmp a 39).trans (hd 7 _ 39 rfl rfl ⟨⟨7, .data⟩, by simp, rfl, rfl⟩)
          refine Or.inr ⟨69, #[.int .i64 z, .string x], by simp [go_sem, e35, e39], (HC.out X).mono ?_⟩
          rintro e W' ⟨rfl, hb⟩
          exact ⟨_, rfl, hb, rfl⟩
        | 9, ho =>
          injection ho with ho; subst ho
          have e40 : a.tmps[40]?.getD undef = _ := (RY.ev_tmp a 40).trans (hd 8 _ 40 rfl rfl ⟨⟨8, .data⟩, by simp, rfl, rfl⟩)
          exact Or.inl ⟨.bool (!b), X, by simp [execOp, go_sem, e40], Below.refl _ _, rfl⟩
        | n + 10, ho => simp at ho
      intro X vs hX hvs
      have q41 : vs 41 = _ := hvs 9 _ 41 rfl rfl
      simp only [RY.putAll, Act.put, List.setIfInBounds_toArray, List.set_cons_zero, List.set_cons_succ]
      rw [q41]
      generalize vs 32 = s32
      generalize vs 33 = s33
      generalize vs 34 = s34
      generalize vs 35 = s35
      generalize vs 36 = s36
      generalize vs 37 = s37
      generalize vs 38 = s38
      generalize vs 39 = s39
      generalize vs 40 = s40
      clear hvs q41
      replace HBR := uh (blw_trans HBR.out hX)
      clear hX HK
      cases b
      · have HE : Hid (Pl.sheetFits kind key ws = false) := by show _ = _; rw [HX.out, HI.out, HS.out]; rfl
        go_wp2
        go_ret
        exact ⟨Pl.ret_bool HE.out.symm, blw_trans HB.out HBR.out⟩
      · have HN : Hid (Pl.fitsA ag ws = Pl.fitsA (ag.drop (k + 1)) (ws.drop (k + 1))) := by show _ = _; rw [HI.out, HS.out]; rfl
        go_wp2
        go_roundw
        case rel => exact ⟨k + 1, by omega, by go_num, HBR.out, HN.out⟩
        case measure => simp [intOf]; omega

end Go.Proofs.Ytikacjpbnoihjaa
