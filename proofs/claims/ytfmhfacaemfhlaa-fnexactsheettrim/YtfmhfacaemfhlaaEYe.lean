/-
  Sheets: what need not be said, left out: the program.
-/
import Derived.Test.YtfmhfacaemfhlaaEYc
namespace Go.Proofs.Ytfmhfacaemfhlaa
open Go.RowKit Go.Deep

def VEt (p : Nat) (o : Nat) (p2 : Nat) (o2 : Nat) (n : Nat) (c1 : Nat) (c2 : Nat) (k : Nat) (x : ByteArray) (y : ByteArray) (b : Bool) : Nat → Value → World → Prop
  | 0, vv, _ => vv = .slice (some ⟨p, o, none⟩) n c1
  | 1, vv, _ => vv = .int .i64 (k : Int)
  | 2, vv, _ => vv = .pointer (some ⟨p, o + k, none⟩)
  | 3, vv, _ => vv = .string x
  | 4, vv, _ => vv = .slice (some ⟨p2, o2, none⟩) n c2
  | 5, vv, _ => vv = .int .i64 (k : Int)
  | 6, vv, _ => vv = .pointer (some ⟨p2, o2 + k, none⟩)
  | 7, vv, _ => vv = .string y
  | 8, vv, _ => vv = .bool b
  | _, _, _ => True
theorem VEt_mono (p : Nat) (o : Nat) (p2 : Nat) (o2 : Nat) (n : Nat) (c1 : Nat) (c2 : Nat) (k : Nat) (x : ByteArray) (y : ByteArray) (b : Bool) : ∀ jj vv W W', Below W.heap.size W W' → VEt p o p2 o2 n c1 c2 k x y b jj vv W → VEt p o p2 o2 n c1 c2 k x y b jj vv W' := by
  intro jj vv W W' hb h
  match jj with
  | 0 => exact h
  | 1 => exact h
  | 2 => exact h
  | 3 => exact h
  | 4 => exact h
  | 5 => exact h
  | 6 => exact h
  | 7 => exact h
  | 8 => exact h
  | n + 9 => exact trivial

set_option maxRecDepth 8000 in
set_option maxHeartbeats 4000000 in
theorem equalTxI (A B : List ByteArray) (va vb : Value) (w : World) (hA : Raw w shTxs [.row A.length (txD A)] [va]) (hB : Raw w shTxs [.row B.length (txD B)] [vb]) :
    Calls Try.prog 53 #[va, vb] w fun e w' => e = .returned (.bool (Pl.eqWs A B)) ∧ Below w.heap.size w w' := by
  obtain ⟨a1, c1, rfl⟩ := hA.len0
  obtain ⟨a2, c2, rfl⟩ := hB.len0
  obtain ⟨R, hR⟩ : ∃ R, R = Pl.eqWs A B := ⟨_, rfl⟩
  have HR : Hid (R = Pl.eqWs A B) := hR
  rw [← hR]
  clear hR
  by_cases hlen : A.length = B.length
  rotate_left
  · have hne : ((A.length : Int) != (B.length : Int)) = true := by simp; omega
    have HE : Hid (R = false) := HR.out.trans (eqWs_len A B hlen)
    clear hlen hA hB
    go_enter Try.func53, Try.ntmps53
    go_wp2
    go_ret
    exact ⟨Pl.ret_bool HE.out.symm, Below.refl _ _⟩
  have HA := uh (txs_open hA)
  have HB := uh (txs_open hB)
  obtain ⟨n, hn⟩ : ∃ n, n = A.length := ⟨_, rfl⟩
  have hm : B.length = n := by omega
  rw [← hn] at HA
  rw [hm] at HB
  rw [← hn, hm]
  have HN : Hid (n = A.length ∧ n = B.length) := ⟨hn, hm.symm⟩
  have hnm : n ≤ maxLen := by
    rcases HA.out with h | ⟨_, _, _, _, _, h, _⟩
    · omega
    · exact h
  unfold maxLen at hnm
  have hne0 : ((n : Int) != (n : Int)) = false := by simp
  clear hA hB hn hm hlen
  go_enter Try.func53, Try.ntmps53
  go_wp2
  go_loopw [13] (fun i wr => ∃ k : Nat, k ≤ n ∧ i = .int .i64 k ∧ Hid (R = Pl.eqWs (A.drop k) (B.drop k)) ∧ Below w.heap.size w wr) (fun i _ => n - (intOf i).toNat)
  case atStart => exact ⟨0, Nat.zero_le _, rfl, HR, Below.refl _ _⟩
  case round =>
    obtain ⟨k, hk, rfl, HI, hB⟩ := hrel
    have HBW := uh hB
    clear hB
    by_cases hlt : k < n
    rotate_left
    · obtain rfl : k = n := by omega
      have HE : Hid (R = true) := by show R = _; rw [HI.out, List.drop_of_length_le (by have := HN.out.1; omega), List.drop_of_length_le (by have := HN.out.2; omega)]; rfl
      go_wp2
      go_ret
      exact ⟨Pl.ret_bool HE.out.symm, HBW.out⟩
    rcases HA.out with ⟨e0, _⟩ | ⟨p, o, c, hv, hp, _, hc⟩
    · omega
    injection hv with g1 _ g3
    subst g1; subst g3
    rcases HB.out with ⟨e0, _⟩ | ⟨p2, o2, c2', hv2, hp2, _, hc2⟩
    · omega
    injection hv2 with k1 _ k3
    subst k1; subst k3
    have x0 := hc k hlt
    have y0 := hc2 k hlt
    have HS : Hid _ := uh (eqWs_at (A := A) (B := B) (k := k) (by rw [← HN.out.1]; exact hlt) (by rw [← HN.out.2]; exact hlt))
    obtain ⟨x, hx⟩ : ∃ x, x = A.getD k Pl.txNo := ⟨_, rfl⟩
    obtain ⟨y, hy⟩ : ∃ y, y = B.getD k Pl.txNo := ⟨_, rfl⟩
    rw [← hx] at HS x0
    rw [← hy] at HS y0
    have HGX : Hid (wr.rangeAt p (o + k) [.string x]) := rA_later (fun j u hu => by
      cases j with
      | zero => injection hu with hu; rw [← hu]; exact x0
      | succ j => simp at hu) hp HBW.out
    have HGY : Hid (wr.rangeAt p2 (o2 + k) [.string y]) := rA_later (fun j u hu => by
      cases j with
      | zero => injection hu with hu; rw [← hu]; exact y0
      | succ j => simp at hu) hp2 HBW.out
    have HPX := uh (Nat.lt_of_lt_of_le hp HBW.out.size)
    have HPY := uh (Nat.lt_of_lt_of_le hp2 HBW.out.size)
    have hk0 : (0 : Int) ≤ (k : Int) := by omega
    have hkn : (k : Int) < (n : Int) := by omega
    obtain ⟨b, hb0⟩ : ∃ b, b = !(x.toList == y.toList) := ⟨_, rfl⟩
    have hne : (x.toList == y.toList) = !b := by rw [hb0, Bool.not_not]
    have HBB := uh hne
    clear hx hy x0 y0 hp hp2 hc hc2 hb0
    go_upto_region 6 with fail
    refine RY.region_past wr (Below.refl _ _) (VEt p o p2 o2 n c1 c2 k x y b) (VEt_mono _ _ _ _ _ _ _ _ _ _ _) (by kernel_rfl) (by kernel_rfl) (by kernel_rfl) (by kernel_rfl) ?_ ?_
    · intro ii o' ho a X hX hk hd
      match ii, ho with
      | 0, ho =>
        injection ho with ho; subst ho
        have e0 : a.tmps[0]?.getD undef = .slice (some ⟨p, o, none⟩) n c1 := (RY.ev_tmp a 0).trans ((hk 0 (by kernel_rfl)).trans rfl)
        exact Or.inl ⟨.slice (some ⟨p, o, none⟩) n c1, X, by simp [execOp, go_sem, e0], Below.refl _ _, rfl⟩
      | 1, ho =>
        injection ho with ho; subst ho
        have e5 : a.tmps[5]?.getD undef = .int .i64 (k : Int) := (RY.ev_tmp a 5).trans ((hk 5 (by kernel_rfl)).trans rfl)
        exact Or.inl ⟨.int .i64 (k : Int), X, by simp [execOp, go_sem, e5], Below.refl _ _, rfl⟩
      | 2, ho =>
        injection ho with ho; subst ho
        have e16 : a.tmps[16]?.getD undef = .slice (some ⟨p, o, none⟩) n c1 := (RY.ev_tmp a 16).trans (hd 0 _ 16 rfl rfl ⟨⟨0, .data⟩, by simp, rfl, rfl⟩)
        have e17 : a.tmps[17]?.getD undef = .int .i64 (k : Int) := (RY.ev_tmp a 17).trans (hd 1 _ 17 rfl rfl ⟨⟨1, .data⟩, by simp, rfl, rfl⟩)
        exact Or.inl ⟨.pointer (some ⟨p, o + k, none⟩), X, by simp [execOp, go_sem, e16, e17, hk0, hkn], Below.refl _ _, rfl⟩
      | 3, ho =>
        injection ho with ho; subst ho
        have e18 : a.tmps[18]?.getD undef = .pointer (some ⟨p, o + k, none⟩) := (RY.ev_tmp a 18).trans (hd 2 _ 18 rfl rfl ⟨⟨2, .data⟩, by simp, rfl, rfl⟩)
        have ypl_ := Nat.lt_of_lt_of_le HPX.out hX.size
        have ycl_ : X.cell? ⟨p, o + k, none⟩ = some (.string x) := by have q := rA_get (rA_later HGX.out HPX.out hX) 0 _ rfl; simpa using q
        exact Or.inl ⟨.string x, X, by simp [execOp, go_sem, e18, ycl_], Below.refl _ _, rfl⟩
      | 4, ho =>
        injection ho with ho; subst ho
        have e1 : a.tmps[1]?.getD undef = .slice (some ⟨p2, o2, none⟩) n c2 := (RY.ev_tmp a 1).trans ((hk 1 (by kernel_rfl)).trans rfl)
        exact Or.inl ⟨.slice (some ⟨p2, o2, none⟩) n c2, X, by simp [execOp, go_sem, e1], Below.refl _ _, rfl⟩
      | 5, ho =>
        injection ho with ho; subst ho
        have e5 : a.tmps[5]?.getD undef = .int .i64 (k : Int) := (RY.ev_tmp a 5).trans ((hk 5 (by kernel_rfl)).trans rfl)
        exact Or.inl ⟨.int .i64 (k : Int), X, by simp [execOp, go_sem, e5], Below.refl _ _, rfl⟩
      | 6, ho =>
        injection ho with ho; subst ho
        have e20 : a.tmps[20]?.getD undef = .slice (some ⟨p2, o2, none⟩) n c2 := (RY.ev_tmp a 20).trans (hd 4 _ 20 rfl rfl ⟨⟨4, .data⟩, by simp, rfl, rfl⟩)
        have e21 : a.tmps[21]?.getD undef = .int .i64 (k : Int) := (RY.ev_tmp a 21).trans (hd 5 _ 21 rfl rfl ⟨⟨5, .data⟩, by simp, rfl, rfl⟩)
        exact Or.inl ⟨.pointer (some ⟨p2, o2 + k, none⟩), X, by simp [execOp, go_sem, e20, e21, hk0, hkn], Below.refl _ _, rfl⟩
      | 7, ho =>
        injection ho with ho; subst ho
        have e22 : a.tmps[22]?.getD undef = .pointer (some ⟨p2, o2 + k, none⟩) := (RY.ev_tmp a 22).trans (hd 6 _ 22 rfl rfl ⟨⟨6, .data⟩, by simp, rfl, rfl⟩)
        have ypl_ := Nat.lt_of_lt_of_le HPY.out hX.size
        have ycl_ : X.cell? ⟨p2, o2 + k, none⟩ = some (.string y) := by have q := rA_get (rA_later HGY.out HPY.out hX) 0 _ rfl; simpa using q
        exact Or.inl ⟨.string y, X, by simp [execOp, go_sem, e22, ycl_], Below.refl _ _, rfl⟩
      | 8, ho =>
        injection ho with ho; subst ho
        have e19 : a.tmps[19]?.getD undef = .string x := (RY.ev_tmp a 19).trans (hd 3 _ 19 rfl rfl ⟨⟨3, .data⟩, by simp, rfl, rfl⟩)
        have e23 : a.tmps[23]?.getD undef = .string y := (RY.ev_tmp a 23).trans (hd 7 _ 23 rfl rfl ⟨⟨7, .data⟩, by simp, rfl, rfl⟩)
        exact Or.inl ⟨.bool b, X, by simp [execOp, go_sem, e19, e23, hne], Below.refl _ _, rfl⟩
      | n + 9, ho => simp at ho
    intro X vs hX hvs
    have q24 : vs 24 = _ := hvs 8 _ 24 rfl rfl
    simp only [RY.putAll, Act.put, List.setIfInBounds_toArray, List.set_cons_zero, List.set_cons_succ]
    rw [q24]
    generalize vs 16 = s16
    generalize vs 17 = s17
    generalize vs 18 = s18
    generalize vs 19 = s19
    generalize vs 20 = s20
    generalize vs 21 = s21
    generalize vs 22 = s22
    generalize vs 23 = s23
    clear hvs q24
    have HBX := uh (blw_trans HBW.out hX)
    clear hX hne
    cases b
    · have HE : Hid (R = Pl.eqWs (A.drop (k + 1)) (B.drop (k + 1))) := by show R = _; rw [HI.out, HS.out, HBB.out]; rfl
      go_wp2
      go_roundw
      case rel => exact ⟨k + 1, by omega, by go_num, HE, HBX.out⟩
      case measure => simp [intOf]; omega
    · have HE : Hid (R = false) := by show R = _; rw [HI.out, HS.out, HBB.out]; rfl
      go_wp2
      go_ret
      exact ⟨Pl.ret_bool HE.out.symm, HBX.out⟩

set_option maxRecDepth 8000 in
set_option maxHeartbeats 8000000 in
/-- The closure: is it a line that is kept? -/
theorem keepsI (kind : ByteArray) (ra : Option Addr) (rc B : Nat) (x : Pl.Ln) (aw : Option Addr) (cw : Nat) (w : World) (hB : LBox w B [.slice ra (Pl.rulesOf kind).length rc]) (hr : Raw w [.row 44 shSheetRule] [rulesD (Pl.rulesOf kind)] [.slice ra (Pl.rulesOf kind).length rc]) (h : Raw w shTxs [.row x.ws.length (txD x.ws)] [.slice aw x.ws.length cw]) :
    Calls Try.prog 51 #[.agg #[.string x.key, .slice aw x.ws.length cw], .pointer (some ⟨B, 0, none⟩)] w fun e w' => e = .returned (.bool (Pl.keepI kind x)) ∧ Below w.heap.size w w' := by
  have HL := uh h
  obtain ⟨R, hR⟩ : ∃ R, R = Pl.keepI kind x := ⟨_, rfl⟩
  rw [← hR]
  unfold Pl.keepI at hR
  have HR0 := uh hR
  clear hR
  have HRL := uh (Pl.rules_len kind)
  obtain ⟨rs, hrs⟩ : ∃ rs, rs = Pl.rulesOf kind := ⟨_, rfl⟩
  rw [← hrs] at hB hr HR0 HRL
  clear hrs
  obtain ⟨b0, hb0⟩ : ∃ b, b = w.heap.size := ⟨_, rfl⟩
  obtain ⟨wa, hwa⟩ : ∃ wa, wa = w.alloc (.cells #[.string x.key, .slice aw x.ws.length cw] 48) := ⟨_, rfl⟩
  have HB : Hid (Below w.heap.size w wa) := by show Below _ _ _; rw [hwa]; exact blw_alloc (Below.refl _ _) _
  have HX : Hid (LBox wa b0 [.string x.key, .slice aw x.ws.length cw]) := by show LBox _ _ _; rw [hwa, hb0]; exact LBox.new w #[.string x.key, .slice aw x.ws.length cw] _ _ rfl
  have HKB := uh (hB.later HB.out)
  have HC := uh (ruleJ rs ra rc x.key wa wa (Below.refl _ _) HRL.out (hr.later HB.out))
  obtain ⟨n, hn⟩ : ∃ n, n = rs.length := ⟨_, rfl⟩
  rw [← hn] at HKB HC
  clear hB hr h hn
  go_enter Try.func51, Try.ntmps51
  go_upto_region 1 with fail
  rw [← hwa, ← hb0]
  clear hwa hb0
  have x0 := HX.out.get 0 _ rfl
  have xl := HX.out.lt
  have k0 := HKB.out.get 0 _ rfl
  have kl := HKB.out.lt
  go_wp2_with fail
  refine HC.out.mono ?_
  rintro e w1 ⟨hra, hb⟩
  unfold RuAns at hra
  clear x0 xl k0 kl HC HKB
  cases hix : Pl.ruIx rs x.key with
  | none =>
    rw [hix] at hra
    simp only at hra
    subst hra
    have HRE : Hid (R = !Pl.eqWs x.ws []) := by have := HR0.out; rw [hix] at this; exact this
    obtain ⟨w3, hw3⟩ : ∃ w3, w3 = w1.alloc (.cells #[.string { data := #[] }, .slice none 0 0, .bool false, .slice none 0 0] 44) := ⟨_, rfl⟩
    obtain ⟨b3, hb3⟩ : ∃ b, b = w1.heap.size := ⟨_, rfl⟩
    have hbw : Below w1.heap.size w1 w3 := by rw [hw3]; exact blw_alloc (Below.refl _ _) _
    have HBX : Hid (LBox w3 b3 [.string { data := #[] }, .slice none 0 0, .bool false, .slice none 0 0]) := by show LBox _ _ _; rw [hw3, hb3]; exact LBox.new w1 #[.string { data := #[] }, .slice none 0 0, .bool false, .slice none 0 0] _ _ rfl
    have hb13 := blw_trans hb hbw
    replace HB := uh (blw_trans HB.out hb13)
    replace HX := uh (HX.out.later hb13)
    clear hb hbw hb13 hix HR0
    go_upto_region 2 with fail
    rw [← hw3, ← hb3]
    clear hw3 hb3
    have HCE := uh (equalTxI x.ws [] (.slice aw x.ws.length cw) (.slice none 0 0) w3 (HL.out.later HB.out) (.emp _ _ none 0 .nil))
    have z2 := HBX.out.get 2 _ rfl
    have z3 := HBX.out.get 3 _ rfl
    have zl := HBX.out.lt
    have x1 := HX.out.get 1 _ rfl
    have xl := HX.out.lt
    go_wp2_with (go_at_call 53; refine HCE.out.mono ?_; rintro e w' ⟨rfl, hb9⟩)
    go_ret
    exact ⟨Pl.ret_bool HRE.out.symm, blw_trans HB.out hb9⟩
  | some j =>
  rw [hix] at hra
  obtain ⟨a1, c1, a3, c3, he, _, hd3⟩ := hra
  subst he
  have HRE : Hid (R = ((rs.getD j Pl.ruNo).many || !Pl.eqWs x.ws (rs.getD j Pl.ruNo).dflt)) := by have := HR0.out; rw [hix] at this; exact this
  obtain ⟨ru, hru⟩ : ∃ ru, ru = rs.getD j Pl.ruNo := ⟨_, rfl⟩
  rw [← hru] at HRE hd3
  rw [← hru]
  obtain ⟨w3, hw3⟩ : ∃ w3, w3 = w1.alloc (.cells #[.string ru.key, .slice a1 ru.args.length c1, .bool ru.many, .slice a3 ru.dflt.length c3] 44) := ⟨_, rfl⟩
  obtain ⟨b3, hb3⟩ : ∃ b, b = w1.heap.size := ⟨_, rfl⟩
  have hbw : Below w1.heap.size w1 w3 := by rw [hw3]; exact blw_alloc (Below.refl _ _) _
  have HBX : Hid (LBox w3 b3 [.string ru.key, .slice a1 ru.args.length c1, .bool ru.many, .slice a3 ru.dflt.length c3]) := by show LBox _ _ _; rw [hw3, hb3]; exact LBox.new w1 #[.string ru.key, .slice a1 ru.args.length c1, .bool ru.many, .slice a3 ru.dflt.length c3] _ _ rfl
  have hb13 := blw_trans hb hbw
  replace HB := uh (blw_trans HB.out hb13)
  replace HX := uh (HX.out.later hb13)
  have HD3 := uh (hd3.later hb13)
  clear hb hbw hb13 hix HR0 hru hd3
  go_upto_region 2 with fail
  rw [← hw3, ← hb3]
  clear hw3 hb3
  have HCE := uh (equalTxI x.ws ru.dflt (.slice aw x.ws.length cw) (.slice a3 ru.dflt.length c3) w3 (HL.out.later HB.out) HD3.out)
  have z2 := HBX.out.get 2 _ rfl
  have z3 := HBX.out.get 3 _ rfl
  have zl := HBX.out.lt
  have x1 := HX.out.get 1 _ rfl
  have xl := HX.out.lt
  cases hm : ru.many
  · have HE : Hid (R = !Pl.eqWs x.ws ru.dflt) := by show R = _; rw [HRE.out, hm]; rfl
    rw [hm] at z2
    clear hm
    go_wp2_with (go_at_call 53; refine HCE.out.mono ?_; rintro e w' ⟨rfl, hb9⟩)
    go_ret
    exact ⟨Pl.ret_bool HE.out.symm, blw_trans HB.out hb9⟩
  · have HE : Hid (R = true) := by show R = _; rw [HRE.out, hm]; rfl
    rw [hm] at z2
    clear hm
    go_wp2
    go_ret
    exact ⟨Pl.ret_bool HE.out.symm, HB.out⟩

set_option maxRecDepth 8000 in
set_option maxHeartbeats 8000000 in
theorem thoseTrim (l : List Pl.Ln) (pr : Pl.Ln → Bool) (v : Value) (B : Nat) (w : World) (h : Raw w shLns [lnsD l] [v]) (hl : l.length ≤ 4194304)
    (hF : ∀ (x : Pl.Ln) (aw : Option Addr) (cw : Nat) (W : World), x ∈ l → Below w.heap.size w W → Raw W shTxs [.row x.ws.length (txD x.ws)] [.slice aw x.ws.length cw] → Calls Try.prog 51 #[.agg #[.string x.key, .slice aw x.ws.length cw], .pointer (some ⟨B, 0, none⟩)] W fun e w' => e = .returned (.bool (pr x)) ∧ Below W.heap.size W w') :
    Calls Try.prog 50 #[v, .func (.func 51) #[] #[.pointer (some ⟨B, 0, none⟩)]] w (AnsR shLns (lnsD (l.filter pr)) w) := by
  have HL := uh h
  have HF := uh hF
  obtain ⟨va, vc, ev⟩ := h.len0
  subst ev
  clear h hF
  obtain ⟨n, hn⟩ : ∃ n, n = l.length := ⟨_, rfl⟩
  have HN := uh hn
  have hnn : l.length = n := hn.symm
  clear hn
  rw [hnn] at hl
  rw [hnn]
  clear hnn
  go_enter Try.func50, Try.ntmps50
  go_wp2
  go_loopw [5, 10] (fun vo vi wr => ∃ (k : Nat) (xs : List Value), k ≤ n ∧ vi = .int .i64 k ∧ Sv w wr 48 shSheetLine vo ((l.take k).filter pr).length (((l.take k).filter pr).flatMap lnD) xs ∧ Below w.heap.size w wr) (fun _ vi _ => n - (intOf vi).toNat)
  case atStart => exact ⟨0, [], Nat.zero_le _, rfl, ⟨(Gr.nil w w.heap.size _ shSheetLine).row, .nil⟩, Below.refl _ _⟩
  case round =>
    obtain ⟨k, xs, hk, rfl, hG, hB⟩ := hrel
    have HGr := uh hG
    have HBr := uh hB
    obtain ⟨ua, uc, huu⟩ := hG.shape
    subst huu
    clear hG hB
    by_cases hlt : k < n
    rotate_left
    · have hks : l.take k = l := List.take_of_length_le (by have := HN.out; omega)
      rw [hks] at HGr ⊢
      have HD : Hid (AnsR shLns (lnsD (l.filter pr)) w (.returned (.slice ua (l.filter pr).length uc)) wr) := ⟨_, rfl, HGr.out.done HBr.out, HBr.out⟩
      clear hks
      go_wp2
      go_ret
      exact HD.out
    have hkL : k < l.length := by have := HN.out; omega
    rcases lns_open HL.out with ⟨e0, _⟩ | ⟨p, o, c, hv, hp, hml, hopen⟩
    · omega
    rw [← HN.out] at hv
    injection hv with g1 _ g3
    subst g1; subst g3
    obtain ⟨aw, cw, hgx, hrx⟩ := hopen k hkL
    have HST := uh (filt_stepE (pr := pr) hkL)
    have hle : ((l.take k).filter pr).length ≤ n := Nat.le_trans (List.length_filter_le _ _) (by rw [List.length_take]; omega)
    have HXM : Hid (l.getD k Pl.lnNo ∈ l) := by
      show _ ∈ _
      have e : l.getD k Pl.lnNo = l[k] := by simp [hkL]
      rw [e]; exact List.getElem_mem hkL
    obtain ⟨x, hx⟩ : ∃ x, x = l.getD k Pl.lnNo := ⟨_, rfl⟩
    rw [← hx] at hgx hrx HST HXM
    have hgr : wr.rangeAt p (o + k * 2) [.string x.key, .slice aw x.ws.length cw] := rA_later hgx hp HBr.out
    have HRX : Hid (Raw w shSheetLine (lnD x) [.string x.key, .slice aw x.ws.length cw]) := .s _ hrx
    obtain ⟨m, hm⟩ : ∃ m, m = ((l.take k).filter pr).length := ⟨_, rfl⟩
    rw [← hm] at HGr hle ⊢
    have HM := uh hm
    have hk0 : (0 : Int) ≤ (k : Int) := by omega
    have hkn : (k : Int) < (n : Int) := by omega
    obtain ⟨y, hy⟩ : ∃ y, y = wr.alloc (.cells #[.string x.key, .slice aw x.ws.length cw] 48) := ⟨_, rfl⟩
    have hby : Below wr.heap.size wr y := by rw [hy]; exact blw_alloc (Below.refl _ _) _
    obtain ⟨z0, hz0⟩ : ∃ z, z = wr.heap.size := ⟨_, rfl⟩
    have HG : Hid (LBox y z0 [.string x.key, .slice aw x.ws.length cw]) := by show LBox _ _ _; rw [hy]; exact LBox.new _ #[.string x.key, .slice aw x.ws.length cw] _ _ hz0
    have HC := uh (HF.out x aw cw y HXM.out (blw_trans HBr.out hby) (hrx.later (blw_trans HBr.out hby)))
    clear hx hgx hrx hopen hml hm
    go_upto_region 5 with (refine wpList_load_mid rfl 48 _ rfl p (o + k * 2) rfl [.string x.key, .slice aw x.ws.length cw] _ hgr Try.underlying48 rfl (by kernel_rfl) ?_)
    rw [← hy, ← hz0]
    clear hy hgr hp
    replace HGr := uh (HGr.out.later hby)
    replace HBr := uh (blw_trans HBr.out hby)
    clear hby hz0
    have hgl := HG.out.lt
    have hga := HG.out.at_
    go_wp2_with (refine wpList_load_mid rfl 48 _ rfl z0 0 rfl [.string x.key, .slice aw x.ws.length cw] _ hga Try.underlying48 rfl (by kernel_rfl) ?_)
    refine HC.out.mono ?_
    rintro e w1 ⟨rfl, hb1⟩
    replace HGr := uh (HGr.out.later hb1)
    replace HBr := uh (blw_trans HBr.out hb1)
    replace HG := uh (HG.out.later hb1)
    clear hb1 hgl hga HC
    cases hq : pr x
    · have HE : Hid ((l.take (k + 1)).filter pr = (l.take k).filter pr) := by show _ = _; rw [HST.out, hq]; rfl
      clear hq
      go_wp2
      go_roundw
      case rel => exact ⟨k + 1, xs, by omega, by go_num, by rw [HE.out, ← HM.out]; exact HGr.out, HBr.out⟩
      case measure => simp [intOf]; omega
    · have HE : Hid ((l.take (k + 1)).filter pr = (l.take k).filter pr ++ [x]) := by show _ = _; rw [HST.out, hq]; rfl
      clear hq
      have hgl := HG.out.lt
      have hga := HG.out.at_
      go_wp2_with first | refine wpList_load_mid rfl 48 _ rfl z0 0 rfl [.string x.key, .slice aw x.ws.length cw] _ hga Try.underlying48 rfl (by kernel_rfl) ?_ | (refine sv_push (wa := w) rfl _ _ rfl (.slice ua m uc) m _ xs rfl (HGr.out.later (blw_alloc (Below.refl _ _) _)) w1.heap.size 1 (lnD x) [.string x.key, .slice aw x.ws.length cw] rfl HRX.out (World.news_of_block (cs := #[.string x.key, .slice aw x.ws.length cw]) (heap_alloc_new w1 _)) (by omega) (Nat.le_trans HBr.out.size (by simp)) ?_; intro gg1 cc1 w2 q1 q2; have HQ := uh (And.intro q1 (HGr.out.later (blw_alloc (Below.refl _ _) _) |>.below (blw_alloc HBr.out _) q2)); clear q1 q2)
      go_roundw
      case rel => exact ⟨k + 1, _, by omega, by go_num, by rw [HE.out, List.length_append, ← HM.out, List.flatMap_append, List.flatMap_singleton]; exact HQ.out.1, HQ.out.2⟩
      case measure => simp [intOf]; omega

set_option maxRecDepth 8000 in
set_option maxHeartbeats 8000000 in
theorem trimmedI (kind : ByteArray) (ra : Option Addr) (rc : Nat) (l : List Pl.Ln) (v : Value) (w : World) (hr : Raw w [.row 44 shSheetRule] [rulesD (Pl.rulesOf kind)] [.slice ra (Pl.rulesOf kind).length rc]) (h : Raw w shLns [lnsD l] [v]) (hl : l.length ≤ 1048576) (hw : ∀ x ∈ l, x.ws.length ≤ 4194304) :
    Calls Try.prog 28 #[.agg #[.slice ra (Pl.rulesOf kind).length rc], v] w (AnsL shLns (lnsD (Pl.trimmed kind l)) w) := by
  obtain ⟨b0, hb0⟩ : ∃ b, b = w.heap.size := ⟨_, rfl⟩
  obtain ⟨wa, hwa⟩ : ∃ wa, wa = w.alloc (.cells #[.slice ra (Pl.rulesOf kind).length rc] 73) := ⟨_, rfl⟩
  have HB : Hid (Below w.heap.size w wa) := by show Below _ _ _; rw [hwa]; exact blw_alloc (Below.refl _ _) _
  have HB0 : Hid (LBox wa b0 [.slice ra (Pl.rulesOf kind).length rc]) := by show LBox _ _ _; rw [hwa, hb0]; exact LBox.new w #[.slice ra (Pl.rulesOf kind).length rc] _ _ rfl
  have HC := uh (thoseTrim l (Pl.keepI kind) v b0 wa (h.later HB.out) (by omega) (fun x aw cw X _ hX hx => keepsI kind ra rc b0 x aw cw X (HB0.out.later hX) (hr.later (blw_trans HB.out hX)) hx))
  have HLT : Hid ((Pl.trimmed kind l).length ≤ 4194304) := Nat.le_trans (List.length_filter_le _ _) (by omega)
  have HWT : Hid (∀ x ∈ Pl.trimmed kind l, x.ws.length ≤ 4194304) := fun x hx => hw x (List.mem_filter.1 hx).1
  obtain ⟨va, vc, ev⟩ := h.len0
  subst ev
  obtain ⟨n, hn⟩ : ∃ n, n = (Pl.rulesOf kind).length := ⟨_, rfl⟩
  rw [← hn] at hwa
  rw [← hn]
  clear h hl hw hr hn
  obtain ⟨o, ho⟩ : ∃ o, o = Pl.trimmed kind l := ⟨_, rfl⟩
  have HO : Hid (l.filter (Pl.keepI kind) = o) := ho.symm
  rw [← ho] at HLT HWT
  rw [← ho]
  clear ho
  go_enter Try.func28, Try.ntmps28
  go_upto_region 1 with fail
  rw [← hwa, ← hb0]
  clear hwa hb0
  go_wp2_with fail
  refine HC.out.mono ?_
  rintro e w1 ⟨v1, rfl, hr, hb⟩
  rw [HO.out] at hr
  have HC2 := uh (copyLnsI o v1 w1 hr HLT.out HWT.out)
  replace HB := uh (blw_trans HB.out hb)
  clear hr hb HC
  go_wp2_with fail
  refine HC2.out.mono ?_
  rintro e w2 ⟨v2, F, rfl, r, nd, fr, hb⟩
  have HD : Hid (AnsL shLns (lnsD o) w (.returned v2) w2) := ⟨_, F, rfl, r, nd, fun b hb' => Nat.le_trans HB.out.size (fr b hb'), blw_trans HB.out hb⟩
  clear r nd fr hb
  go_wp2
  go_ret
  exact HD.out

set_option maxRecDepth 8000 in
set_option maxHeartbeats 16000000 in
theorem trimOne (x : Pl.Bl) (aw : Option Addr) (cw B1 B2 mb : Nat) (vt vb vs : Value) (X : World) (h1 : X.cell? ⟨B1, 0, none⟩ = some (.func (.func 28) #[] #[])) (hl1 : B1 < X.heap.size) (h2 : X.cell? ⟨B2, 0, none⟩ = some (.map (some mb))) (hl2 : B2 < X.heap.size) (hk : Kn X mb vt vb vs) (h : Raw X shLns [lnsD x.lines] [.slice aw x.lines.length cw]) (hsz : x.lines.length ≤ 1048576 ∧ ∀ y ∈ x.lines, y.ws.length ≤ 4194304) :
    Calls Try.prog 42 #[.agg #[.string x.kind, .string x.name, .slice aw x.lines.length cw], .pointer (some ⟨B1, 0, none⟩), .pointer (some ⟨B2, 0, none⟩)] X (Ans shSheetBlock (blD ⟨x.kind, x.name, Pl.trimmed x.kind x.lines⟩) X) := by
  obtain ⟨b0, hb0⟩ : ∃ b, b = X.heap.size := ⟨_, rfl⟩
  obtain ⟨wa, hwa⟩ : ∃ wa, wa = (X.alloc (.cells #[.string x.kind, .string x.name, .slice aw x.lines.length cw] 40)).alloc (.cells #[.string { data := #[] }, .string { data := #[] }, .slice none 0 0] 40) := ⟨_, rfl⟩
  have HB : Hid (Below X.heap.size X wa) := by show Below _ _ _; rw [hwa]; exact blw_alloc (blw_alloc (Below.refl _ _) _) _
  have HX : Hid (WBox wa b0 40 [.string x.kind, .string x.name, .slice aw x.lines.length cw]) := by show WBox _ _ _ _; rw [hwa, hb0]; exact (WBox.new X [.string x.kind, .string x.name, .slice aw x.lines.length cw] _ _ rfl).later (blw_alloc (Below.refl _ _) _)
  have HO : Hid (OwnBlk wa (b0 + 1) 40 3) := by show OwnBlk _ _ _ _; rw [hwa]; exact OwnBlk.alloc_at3 _ _ _ _ _ rfl (by simp [hb0])
  have ZA : Hid (wa.heap.size = b0 + 2) := by show _ = _; rw [hwa]; simp [hb0]
  have HZ := uh hb0
  obtain ⟨ra, rc, hlk, hrr⟩ := (hk.later HB.out).look x.kind
  have HC := uh (trimmedI x.kind ra rc x.lines (.slice aw x.lines.length cw) wa hrr (h.later HB.out) hsz.1 hsz.2)
  have y1 : wa.cell? ⟨B1, 0, none⟩ = some (.func (.func 28) #[] #[]) := (HB.out.cell (p := ⟨B1, 0, none⟩) hl1).trans h1
  have y2 : wa.cell? ⟨B2, 0, none⟩ = some (.map (some mb)) := (HB.out.cell (p := ⟨B2, 0, none⟩) hl2).trans h2
  have yl1 : B1 < wa.heap.size := Nat.lt_of_lt_of_le hl1 HB.out.size
  have yl2 : B2 < wa.heap.size := Nat.lt_of_lt_of_le hl2 HB.out.size
  obtain ⟨rn, hrn⟩ : ∃ rn, rn = (Pl.rulesOf x.kind).length := ⟨_, rfl⟩
  rw [← hrn] at hlk HC
  clear hrn
  obtain ⟨o, ho⟩ : ∃ o, o = Pl.trimmed x.kind x.lines := ⟨_, rfl⟩
  rw [← ho] at HC
  rw [← ho]
  clear ho
  go_enter Try.func42, Try.ntmps42
  go_upto_region 1 with fail
  rw [← hwa, ← hb0]
  clear hwa hb0 h1 h2 hk h hsz hrr hl1 hl2
  have x0 := HX.out.get 0 _ rfl
  have x2 := HX.out.get 2 _ rfl
  have xl := HX.out.own.lt
  go_wp2_with fail
  refine HC.out.mono ?_
  rintro e w1 ⟨v1, F, rfl, r, nd, fr, hb⟩
  obtain ⟨wx, wc, hvx⟩ := r.raw.len0
  subst hvx
  have HR := uh (And.intro r (And.intro nd fr))
  have HX1 := HX.out.later hb
  obtain ⟨y, hy⟩ : ∃ y, y = w1.setCell ⟨b0, 2, none⟩ (.slice wx o.length wc) := ⟨_, rfl⟩
  have HX2 : Hid (WBox y b0 40 [.string x.kind, .string x.name, .slice wx o.length wc]) := by show WBox _ _ _ _; rw [hy]; exact HX1.set 2 _ (by simp)
  have HM : Hid (Marks (fun b => b = b0) w1 y) := by show Marks _ _ _; rw [hy]; exact Marks.sc (S := fun b => b = b0) _ rfl _ _
  have HO2 := uh (HM.out.own _ _ _ (HO.out.later hb))
  have HB2 : Hid (Below X.heap.size X y) := HM.out.below (fun b e => by rw [e, HZ.out]; exact Nat.le_refl _) (blw_trans HB.out hb)
  have HF : Hid (∀ b ∈ F, b0 + 2 ≤ b) := fun b hb => by have := HR.out.2.2 b hb; have := ZA.out; omega
  have z2 := HX1.get 2 _ rfl
  have zf := HX1.own.frozen 2
  have zz := HX1.own.lt
  clear r nd fr hb x0 x2 xl hlk y1 y2 yl1 yl2
  go_upto_region 2 with fail
  rw [← hy]
  clear hy z2 zf zz HX1 HC
  have hxl := HX2.out.own.lt
  have hxa := HX2.out.at_
  have hth : y.there (b0 + 1) 0 (#[.string x.kind, .string x.name, .slice wx o.length wc] : Array Value).size := uthere HO2.out _ _ (by simp)
  obtain ⟨we, hwe⟩ : ∃ we, we = y.setCells (b0 + 1) 0 [.string x.kind, .string x.name, .slice wx o.length wc] := ⟨_, rfl⟩
  have hrt : we.rangeAt (b0 + 1) 0 [.string x.kind, .string x.name, .slice wx o.length wc] := by rw [hwe]; exact World.rangeAt_setCells_same _ _ _ _ hth
  have HMK : Hid (Marks (fun b => b = b0 + 1) y we) := by show Marks _ _ _; rw [hwe]; exact mks_scs (S := fun b => b = b0 + 1) rfl _ _ _
  have HBB : Hid (Below X.heap.size X we) := by show Below _ _ _; rw [hwe]; exact blw_scs (by have := HZ.out; omega) _ _ _ HB2.out
  go_wp2_with (first | (refine wpList_load_mid rfl 40 _ rfl b0 0 rfl [.string x.kind, .string x.name, .slice wx o.length wc] _ hxa Try.underlying40 rfl (by kernel_rfl) ?_) | (refine wpList_store_mid rfl 40 _ _ rfl (b0 + 1) 0 #[.string x.kind, .string x.name, .slice wx o.length wc] rfl rfl hth (by kernel_rfl) (by simp [Value.oneCell']) ?_))
  first | rw [← hwe] | (simp only [List.toList_toArray]; rw [← hwe])
  try simp only [Act.put]
  refine bodyPost_ret (v := .agg #[.string x.kind, .string x.name, .slice wx o.length wc]) (by simp [results, Try.results42, asAddr, run_loadVar_mid (P := Try.prog) _ _ _ 40 [.string x.kind, .string x.name, .slice wx o.length wc] _ hrt Try.underlying40 rfl (by kernel_rfl)]) rfl ?_
  have M1 := HR.out.1.keep HM.out (fun b hb e => by have := HF.out b hb; omega)
  have M2 := M1.keep HMK.out (fun b hb e => by have := HF.out b hb; omega)
  refine ⟨[.string x.kind, .string x.name, .slice wx o.length wc], F ++ [], rfl, repSheetBlock_mk _ _ M2, by rw [List.append_nil]; exact HR.out.2.1, fun b hb => by rw [List.append_nil] at hb; have := HF.out b hb; have := HZ.out; omega, HBB.out⟩

set_option maxRecDepth 8000 in
set_option maxHeartbeats 16000000 in
theorem trimWith (s : List Pl.Bl) (v : Value) (w : World) (h : Raw w shBls [blsD s] [v]) (hz : okTx s) (hw : Pl.wsh s ≤ 1048576) :
    Calls Try.prog 21 #[.agg #[v], .func (.func 28) #[] #[]] w (Ans shSheet [blsD (if Pl.validS s then s.map (fun x => ⟨x.kind, x.name, Pl.trimmed x.kind x.lines⟩) else [])] w) := by
  have HL := uh h
  have HLL := uh (sheet_small2 s hw)
  have HN60 := uh (fun hv : Pl.validS s = true => valid_le hv)
  obtain ⟨va, vc, ev⟩ := h.len0
  subst ev
  have HVC := uh (fun X (hX : Below w.heap.size w X) => sheetValidI s (.slice va s.length vc) X (h.later hX) hz (by rw [wt_sheet]; exact hw))
  clear h hz hw
  obtain ⟨n, hn⟩ : ∃ n, n = s.length := ⟨_, rfl⟩
  have HN := uh hn
  have hnn : s.length = n := hn.symm
  clear hn
  rw [hnn] at HVC HN60
  rw [hnn]
  clear hnn
  obtain ⟨R, hR⟩ : ∃ R, R = (if Pl.validS s then s.map (fun x : Pl.Bl => (⟨x.kind, x.name, Pl.trimmed x.kind x.lines⟩ : Pl.Bl)) else []) := ⟨_, rfl⟩
  rw [← hR]
  obtain ⟨vb0, hvb0⟩ : ∃ x, x = Pl.validS s := ⟨_, rfl⟩
  rw [← hvb0] at HVC HN60 hR
  have HRE := uh hR
  clear hR hvb0
  obtain ⟨b0, hb0⟩ : ∃ b, b = w.heap.size := ⟨_, rfl⟩
  have HZ := uh hb0
  obtain ⟨wa, hwa⟩ : ∃ wa, wa = ((w.alloc (.cells #[.slice va n vc] 28)).alloc (.cells #[.func (.func 28) #[] #[]] 51)).alloc (.cells #[.slice none 0 0] 28) := ⟨_, rfl⟩
  have HB : Hid (Below w.heap.size w wa) := by show Below _ _ _; rw [hwa]; exact blw_alloc (blw_alloc (blw_alloc (Below.refl _ _) _) _) _
  have HB0 : Hid (LBox wa b0 [.slice va n vc]) := by show LBox _ _ _; rw [hwa, hb0]; exact ((LBox.new w #[.slice va n vc] _ _ rfl).past _).past _
  have HB1 : Hid (LBox wa (b0 + 1) [.func (.func 28) #[] #[]]) := by show LBox _ _ _; rw [hwa]; exact (LBox.new _ #[.func (.func 28) #[] #[]] _ _ (by simp [hb0])).past _
  have HO : Hid (OwnBlk wa (b0 + 2) 28 1) := by show OwnBlk _ _ _ _; rw [hwa]; exact OwnBlk.alloc_at3 _ _ _ _ _ rfl (by simp [hb0])
  have ZA : Hid (wa.heap.size = b0 + 3) := by show _ = _; rw [hwa]; simp [hb0]
  go_enter Try.func21, Try.ntmps21
  go_upto_region 1 with fail
  rw [← hwa, ← hb0]
  clear hwa hb0
  have x0 := HB0.out.get 0 _ rfl
  have xl := HB0.out.lt
  go_wp2_with fail
  refine (HVC.out _ HB.out).mono ?_
  rintro e w1 ⟨rfl, hb1⟩
  have HZ1 : Hid (b0 + 3 ≤ w1.heap.size) := by have := ZA.out; have := hb1.size; show _ ≤ _; omega
  replace HB := uh (blw_trans HB.out hb1)
  replace HB0 := uh (HB0.out.later hb1)
  replace HB1 := uh (HB1.out.later hb1)
  replace HO := uh (HO.out.later hb1)
  clear hb1 x0 xl HVC ZA
  cases vb0
  · have HRN : Hid (R = []) := HRE.out
    obtain ⟨oc, hoc⟩ := HO.out.cell 0 (by decide)
    have of := HO.out.frozen 0
    have ol := HO.out.lt
    have hth : w1.there (b0 + 2) 0 (#[.slice none 0 0] : Array Value).size := uthere HO.out _ _ (by simp)
    obtain ⟨we, hwe⟩ : ∃ we, we = w1.setCells (b0 + 2) 0 [.slice none 0 0] := ⟨_, rfl⟩
    have hrt : we.rangeAt (b0 + 2) 0 [.slice none 0 0] := by rw [hwe]; exact World.rangeAt_setCells_same _ _ _ _ hth
    have HBB : Hid (Below w.heap.size w we) := by show Below _ _ _; rw [hwe]; exact blw_scs (by have := HZ.out; omega) _ _ _ HB.out
    go_wp2_with (refine wpList_store_mid rfl 28 _ _ rfl (b0 + 2) 0 #[.slice none 0 0] rfl rfl hth (by kernel_rfl) (by simp [Value.oneCell']) ?_)
    first | rw [← hwe] | (simp only [List.toList_toArray]; rw [← hwe])
    try simp only [Act.put]
    refine bodyPost_ret (v := .agg #[.slice none 0 0]) (by simp [results, Try.results21, asAddr, run_loadVar_mid (P := Try.prog) _ _ _ 28 [.slice none 0 0] _ hrt Try.underlying28 rfl (by kernel_rfl)]) rfl ?_
    rw [HRN.out]
    exact ⟨[.slice none 0 0], [], rfl, .emp _ _ _ rfl .nil, List.nodup_nil, by simp, HBB.out⟩
  replace HN60 := uh (HN60.out rfl)
  have HRN : Hid (R = s.map (fun x : Pl.Bl => (⟨x.kind, x.name, Pl.trimmed x.kind x.lines⟩ : Pl.Bl))) := HRE.out
  have HKS := uh (kindsK w1)
  go_wp2_with fail
  refine HKS.out.mono ?_
  rintro e w2 ⟨mb, vt, vb, vs, rfl, hkn, hb⟩
  obtain ⟨w3, hw3⟩ : ∃ w3, w3 = w2.alloc (.cells #[.map (some mb)] 69) := ⟨_, rfl⟩
  obtain ⟨b3, hb3⟩ : ∃ b, b = w2.heap.size := ⟨_, rfl⟩
  have hbw : Below w2.heap.size w2 w3 := by rw [hw3]; exact blw_alloc (Below.refl _ _) _
  have HB3 : Hid (LBox w3 b3 [.map (some mb)]) := by show LBox _ _ _; rw [hw3, hb3]; exact LBox.new w2 #[.map (some mb)] _ _ rfl
  have HK := uh (hkn.later hbw)
  have hb13 := blw_trans hb hbw
  replace HB := uh (blw_trans HB.out hb13)
  replace HB0 := uh (HB0.out.later hb13)
  replace HB1 := uh (HB1.out.later hb13)
  replace HO := uh (HO.out.later hb13)
  replace HZ1 := uh (Nat.le_trans HZ1.out hb13.size)
  clear hkn hb hbw hb13 HKS
  go_upto_region 4 with fail
  rw [← hw3, ← hb3]
  clear hw3 hb3
  have HC := uh (withEach s (.slice va n vc) (b0 + 1) b3 w3 (by rw [HN.out]; exact HL.out.later HB.out) (by have := HN60.out; have := HN.out; omega) (fun x => ⟨x.kind, x.name, Pl.trimmed x.kind x.lines⟩) (fun x aw cw X hx hX hr => trimOne x aw cw (b0 + 1) b3 mb vt vb vs X ((HB1.out.later hX).get 0 _ rfl) (HB1.out.later hX).lt ((HB3.out.later hX).get 0 _ rfl) (HB3.out.later hX).lt (HK.out.later hX) hr (HLL.out x hx)))
  have x0 := HB0.out.get 0 _ rfl
  have xl := HB0.out.lt
  go_wp2_with fail
  refine HC.out.mono ?_
  rintro e w4 ⟨v4, F, rfl, r, nd, fr, hb⟩
  obtain ⟨a4, c4, hv4⟩ := r.raw.len0
  subst hv4
  have HR := uh (And.intro r (And.intro nd fr))
  replace HO := uh (HO.out.later hb)
  replace HB := uh (blw_trans HB.out hb)
  have HF : Hid (∀ b ∈ F, b0 + 3 ≤ b) := fun b hb => Nat.le_trans HZ1.out (HR.out.2.2 b hb)
  clear r nd fr hb x0 xl HC
  obtain ⟨q, hq⟩ : ∃ q, q = (s.map (fun x : Pl.Bl => (⟨x.kind, x.name, Pl.trimmed x.kind x.lines⟩ : Pl.Bl))) := ⟨_, rfl⟩
  rw [← hq] at HR HRN
  rw [← hq]
  clear hq
  have hth : w4.there (b0 + 2) 0 (#[.slice a4 q.length c4] : Array Value).size := uthere HO.out _ _ (by simp)
  obtain ⟨we, hwe⟩ : ∃ we, we = w4.setCells (b0 + 2) 0 [.slice a4 q.length c4] := ⟨_, rfl⟩
  have hrt : we.rangeAt (b0 + 2) 0 [.slice a4 q.length c4] := by rw [hwe]; exact World.rangeAt_setCells_same _ _ _ _ hth
  have HMK : Hid (Marks (fun b => b = b0 + 2) w4 we) := by show Marks _ _ _; rw [hwe]; exact mks_scs (S := fun b => b = b0 + 2) rfl _ _ _
  have HBB : Hid (Below w.heap.size w we) := by show Below _ _ _; rw [hwe]; exact blw_scs (by have := HZ.out; omega) _ _ _ HB.out
  go_wp2_with (refine wpList_store_mid rfl 28 _ _ rfl (b0 + 2) 0 #[.slice a4 q.length c4] rfl rfl hth (by kernel_rfl) (by simp [Value.oneCell']) ?_)
  first | rw [← hwe] | (simp only [List.toList_toArray]; rw [← hwe])
  try simp only [Act.put]
  refine bodyPost_ret (v := .agg #[.slice a4 q.length c4]) (by simp [results, Try.results21, asAddr, run_loadVar_mid (P := Try.prog) _ _ _ 28 [.slice a4 q.length c4] _ hrt Try.underlying28 rfl (by kernel_rfl)]) rfl ?_
  have M2 := HR.out.1.keep HMK.out (fun b hb e => by have := HF.out b hb; omega)
  rw [HRN.out]
  exact ⟨[.slice a4 q.length c4], F, rfl, M2, HR.out.2.1, fun b hb => by have := HF.out b hb; have := HZ.out; omega, HBB.out⟩

set_option maxRecDepth 8000 in
set_option maxHeartbeats 8000000 in
theorem trimTop (s : List Pl.Bl) (v : Value) (w : World) (h : Raw w shBls [blsD s] [v]) (hz : okTx s) (hw : Pl.wsh s ≤ 1048576) :
    Calls Try.prog 13 #[.agg #[v]] w (Ans shSheet [blsD (if Pl.validS s then s.map (fun x => ⟨x.kind, x.name, Pl.trimmed x.kind x.lines⟩) else [])] w) := by
  obtain ⟨va, vc, ev⟩ := h.len0
  subst ev
  obtain ⟨n, hn⟩ : ∃ n, n = s.length := ⟨_, rfl⟩
  obtain ⟨b0, hb0⟩ : ∃ b, b = w.heap.size := ⟨_, rfl⟩
  have HZ := uh hb0
  rw [← hn] at h
  rw [← hn]
  obtain ⟨wa, hwa⟩ : ∃ wa, wa = (w.alloc (.cells #[.slice va n vc] 28)).alloc (.cells #[.slice none 0 0] 28) := ⟨_, rfl⟩
  have HB : Hid (Below w.heap.size w wa) := by show Below _ _ _; rw [hwa]; exact blw_alloc (blw_alloc (Below.refl _ _) _) _
  have HB0 : Hid (LBox wa b0 [.slice va n vc]) := by show LBox _ _ _; rw [hwa, hb0]; exact (LBox.new w #[.slice va n vc] _ _ rfl).past _
  have HO : Hid (OwnBlk wa (b0 + 1) 28 1) := by show OwnBlk _ _ _ _; rw [hwa]; exact OwnBlk.alloc_at3 _ _ _ _ _ rfl (by simp [hb0])
  have ZA : Hid (wa.heap.size = b0 + 2) := by show _ = _; rw [hwa]; simp [hb0]
  have HC := uh (trimWith s (.slice va n vc) wa (h.later HB.out) hz hw)
  clear hn h hz hw
  obtain ⟨q, hq⟩ : ∃ q, q = (if Pl.validS s then s.map (fun x : Pl.Bl => (⟨x.kind, x.name, Pl.trimmed x.kind x.lines⟩ : Pl.Bl)) else []) := ⟨_, rfl⟩
  rw [← hq] at HC
  rw [← hq]
  clear hq
  go_enter Try.func13, Try.ntmps13
  go_upto_region 1 with fail
  rw [← hwa, ← hb0]
  clear hwa hb0
  have xa := HB0.out.at_
  have x0 := HB0.out.get 0 _ rfl
  have xl := HB0.out.lt
  go_wp2_with fail
  refine HC.out.mono ?_
  rintro e w4 ⟨cc, F, rfl, r0, nd, fr, hb⟩
  obtain ⟨F0, v4, hF0, rfl, r⟩ := repSheet r0
  rw [List.append_nil] at hF0
  subst hF0
  obtain ⟨a4, c4, hv4⟩ := r.raw.len0
  subst hv4
  have HR := uh (And.intro r (And.intro nd fr))
  replace HO := uh (HO.out.later hb)
  replace HB := uh (blw_trans HB.out hb)
  have HF : Hid (∀ b ∈ F, b0 + 2 ≤ b) := fun b hb => by have := ZA.out; have := HR.out.2.2 b hb; omega
  clear r r0 nd fr hb x0 xl xa HC
  have hth : w4.there (b0 + 1) 0 (#[.slice a4 q.length c4] : Array Value).size := uthere HO.out _ _ (by simp)
  obtain ⟨we, hwe⟩ : ∃ we, we = w4.setCells (b0 + 1) 0 [.slice a4 q.length c4] := ⟨_, rfl⟩
  have hrt : we.rangeAt (b0 + 1) 0 [.slice a4 q.length c4] := by rw [hwe]; exact World.rangeAt_setCells_same _ _ _ _ hth
  have HMK : Hid (Marks (fun b => b = b0 + 1) w4 we) := by show Marks _ _ _; rw [hwe]; exact mks_scs (S := fun b => b = b0 + 1) rfl _ _ _
  have HBB : Hid (Below w.heap.size w we) := by show Below _ _ _; rw [hwe]; exact blw_scs (by have := HZ.out; omega) _ _ _ HB.out
  go_wp2_with (refine wpList_store_mid rfl 28 _ _ rfl (b0 + 1) 0 #[.slice a4 q.length c4] rfl rfl hth (by kernel_rfl) (by simp [Value.oneCell']) ?_)
  first | rw [← hwe] | (simp only [List.toList_toArray]; rw [← hwe])
  try simp only [Act.put]
  refine bodyPost_ret (v := .agg #[.slice a4 q.length c4]) (by simp [results, Try.results13, asAddr, run_loadVar_mid (P := Try.prog) _ _ _ 28 [.slice a4 q.length c4] _ hrt Try.underlying28 rfl (by kernel_rfl)]) rfl ?_
  have M2 := HR.out.1.keep HMK.out (fun b hb e => by have := HF.out b hb; omega)
  exact ⟨[.slice a4 q.length c4], F, rfl, M2, HR.out.2.1, fun b hb => by have := HF.out b hb; have := HZ.out; omega, HBB.out⟩

end Go.Proofs.Ytfmhfacaemfhlaa
