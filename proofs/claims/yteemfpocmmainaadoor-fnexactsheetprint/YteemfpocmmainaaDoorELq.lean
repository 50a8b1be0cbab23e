/-
  Sheets: how they are written: the specification.
-/
import Derived.Test.YteemfpocmmainaaDoorELp
import Derived.Test.YteemfpocmmainaaDoorELc
import Derived.Test.YteemfpocmmainaaDoorEWt
namespace Go.Proofs.YteemfpocmmainaaDoor
open Go.RowKit Go.Deep

set_option maxRecDepth 8000 in
set_option maxHeartbeats 16000000 in
theorem sheetPrintS (s : List Pl.Bl) (v : Value) (w : World) (h : Raw w shBls [blsD s] [v]) (hz : okTx s) (hwt : Pl.wsh s ≤ 1048576) :
    Calls Tryd.prog 5 #[.agg #[v]] w fun e w' => e = .returned (.string (Pl.printOut s)) ∧ Below w.heap.size w w' := by
  have HL := uh h
  have HWT := uh hwt
  obtain ⟨va, vc, ev⟩ := h.len0
  subst ev
  have HR : Hid (Pl.printOut s = if Pl.validS s && decide ((Pl.sheetT s).length ≤ 20000) && decide (Pl.lineCnt s ≤ 400) then ⟨(Pl.sheetT s).toArray⟩ else ⟨#[]⟩) := rfl
  obtain ⟨wa, hwa⟩ : ∃ wa, wa = w.alloc (.cells #[.slice va s.length vc] 29) := ⟨_, rfl⟩
  have HBA : Hid (Below w.heap.size w wa) := by show Below _ _ _; rw [hwa]; exact blw_alloc (Below.refl _ _) _
  obtain ⟨b0, hb0⟩ : ∃ b0, b0 = w.heap.size := ⟨_, rfl⟩
  have HB0 : Hid (WBox wa b0 29 [.slice va s.length vc]) := by show WBox _ _ _ _; rw [hwa, hb0]; exact WBox.new w [.slice va s.length vc] 29 _ rfl
  have HC := uh (sheetValidS s _ wa (h.later HBA.out) hz)
  clear h hz hwt
  obtain ⟨n, hn⟩ : ∃ n, n = s.length := ⟨_, rfl⟩
  have HN := uh hn
  rw [← hn] at HB0 HC hwa ⊢
  clear hn
  obtain ⟨vd, hvd⟩ : ∃ b, b = Pl.validS s := ⟨_, rfl⟩
  rw [← hvd] at HC HR
  clear hvd
  go_enter Tryd.func5, Tryd.ntmps5
  go_upto_region 1 with fail
  rw [← hwa, ← hb0]
  clear hwa
  have HBZ := uh hb0
  clear hb0
  have x0 := HB0.out.get 0 _ rfl
  have xl := HB0.out.own.lt
  go_wp2_with fail
  refine HC.out.mono ?_
  rintro e w1 ⟨rfl, hb1⟩
  replace HB0 := uh (HB0.out.later hb1)
  replace HBA := uh (blw_trans HBA.out hb1)
  clear hb1 x0 xl HC
  cases vd
  · go_wp2
    go_ret
    exact ⟨Pl.ret_str (by rw [HR.out]; rfl), HBA.out⟩
  have HLO : Hid (b0 + 1 ≤ w1.heap.size) := by show _ ≤ _; have := HB0.out.own.lt; omega
  go_wp2
  go_loopw [3, 4, 5] (fun vo vn vi wr => ∃ k : Nat, k ≤ n ∧ vi = .int .i64 k ∧ vn = .int .i64 ((Pl.lineCnt (s.take k) : Nat) : Int) ∧ By wr (b0 + 1) vo (Pl.sheetT (s.take k)) ∧ WBox wr b0 29 [.slice va n vc] ∧ Below w.heap.size w wr) (fun _ _ vi _ => n - (intOf vi).toNat)
  case atStart => exact ⟨0, Nat.zero_le _, rfl, rfl, By.emp w1 (b0 + 1) HLO.out, HB0.out.later (blw_alloc (Below.refl _ _) _), blw_alloc HBA.out _⟩
  case round =>
    clear HB0 HBA HLO
    obtain ⟨k, hk, rfl, rfl, hO, hB0, hW⟩ := hrel
    have HLN : Hid ((Pl.sheetT (s.take k)).length ≤ 6291456) := by
      show _ ≤ _
      have h1 := Pl.sheetT_len (s.take k)
      have h2 := Pl.sum_take_le (fun b => Pl.wbl b + 1) s k
      have h3 := HWT.out
      unfold Pl.wsh at h1 h3
      omega
    have HCN : Hid (∀ k, Pl.lineCnt (s.take k) ≤ 4194304) := fun k => by
      have h2 := Pl.sum_take_le (fun b : Pl.Bl => b.lines.length + 2) s k
      have h3 := HWT.out
      have h4 := cnt_wsh s
      unfold Pl.lineCnt at h4 ⊢
      omega
    have hcn := HCN.out k
    have HO := uh hO
    have HB0 := uh hB0
    have HW := uh hW
    have x0 := hB0.get 0 _ rfl
    have xl := hB0.own.lt
    obtain ⟨sa, sc, hvo⟩ := hO.shape
    subst hvo
    clear hO hB0 hW
    by_cases hlt : k < n
    rotate_left
    · have hks : s.take k = s := List.take_of_length_le (by have := HN.out; omega)
      rw [hks] at HO HLN hcn ⊢
      clear hks
      obtain ⟨O, hO⟩ : ∃ O, O = Pl.sheetT s := ⟨_, rfl⟩
      obtain ⟨ct, hct⟩ : ∃ ct, ct = Pl.lineCnt s := ⟨_, rfl⟩
      rw [← hO] at HR HO HLN ⊢
      rw [← hct] at HR hcn ⊢
      have hcv := HO.out.str_any
      have HCV := uh hcv
      clear hO hct hcv HCN
      by_cases h1 : (20000 : Int) < (O.length : Int)
      · go_wp2
        go_ret
        exact ⟨Pl.ret_str (by rw [HR.out, if_neg (by simp; omega)]), HW.out⟩
      by_cases h2 : (400 : Int) < (ct : Int)
      · go_wp2
        go_ret
        exact ⟨Pl.ret_str (by rw [HR.out, if_neg (by simp; omega)]), HW.out⟩
      have hcv := HCV.out
      go_wp2
      go_ret
      exact ⟨Pl.ret_str (by rw [HR.out, if_pos (by simp; omega)]), HW.out⟩
    have hkL : k < s.length := by have := HN.out; omega
    have HN1 : Hid (Pl.sheetT (s.take (k + 1)) = Pl.sheetT (s.take k) ++ Pl.blockT (s.getD k Pl.blNo)) := by
      show _ = _
      rw [Pl.take_snocD Pl.blNo s k hkL]; simp [Pl.sheetT]
    have HN2 : Hid (Pl.lineCnt (s.take (k + 1)) = Pl.lineCnt (s.take k) + ((s.getD k Pl.blNo).lines.length + 2)) := by
      show _ = _
      rw [Pl.take_snocD Pl.blNo s k hkL]; simp [Pl.lineCnt]
    have hcn1 := HCN.out (k + 1)
    rw [HN2.out] at hcn1
    have hwb : Pl.wbl (s.getD k Pl.blNo) ≤ 1048576 := by
      have e : s.getD k Pl.blNo = s[k] := by simp [hkL]
      have h1 := Pl.sum_mem_le (fun b => Pl.wbl b + 1) s _ (List.getElem_mem hkL)
      have h3 := HWT.out
      unfold Pl.wsh at h3
      rw [e]; omega
    rcases bls_open HL.out with ⟨e0, _⟩ | ⟨p, o, c, hv, hp, hml, hopen⟩
    · omega
    rw [← HN.out] at hv hml
    injection hv with g1 _ g3
    subst g1; subst g3
    unfold maxLen at hml
    obtain ⟨ax, cx, hgx, hrx⟩ := hopen k hkL
    obtain ⟨x, hx⟩ : ∃ x, x = s.getD k Pl.blNo := ⟨_, rfl⟩
    rw [← hx] at hgx hrx HN1 HN2 hwb hcn1
    have hxl2 : wr.rangeAt p (o + k * 3) [.string x.kind, .string x.name, .slice ax x.lines.length cx] := rA_later hgx hp HW.out
    have hpz : p < wr.heap.size := Nat.lt_of_lt_of_le hp HW.out.size
    have HRX := uh hrx
    obtain ⟨O, hO⟩ : ∃ O, O = Pl.sheetT (s.take k) := ⟨_, rfl⟩
    obtain ⟨ct, hct⟩ : ∃ ct, ct = Pl.lineCnt (s.take k) := ⟨_, rfl⟩
    rw [← hO] at HN1 HO HLN ⊢
    rw [← hct] at HN2 hcn hcn1 ⊢
    have HWB := uh hwb
    obtain ⟨wq, hwq⟩ : ∃ wq, wq = wr.alloc (.cells #[.string x.kind, .string x.name, .slice ax x.lines.length cx] 38) := ⟨_, rfl⟩
    obtain ⟨b1, hb1⟩ : ∃ b1, b1 = wr.heap.size := ⟨_, rfl⟩
    have hbq : Below wr.heap.size wr wq := by rw [hwq]; exact blw_alloc (Below.refl _ _) _
    have HBX : Hid (WBox wq b1 38 [.string x.kind, .string x.name, .slice ax x.lines.length cx]) := by show WBox _ _ _ _; rw [hwq, hb1]; exact WBox.new wr [.string x.kind, .string x.name, .slice ax x.lines.length cx] 38 _ rfl
    replace HB0 := uh (HB0.out.later hbq)
    replace HO := uh (HO.out.later hbq)
    replace HW := uh (blw_trans HW.out hbq)
    have hk0 : (0 : Int) ≤ (k : Int) := by omega
    have hkn : (k : Int) < (n : Int) := by omega
    clear hx hopen hO hct hp hgx hrx hwb HCN
    go_upto_region 9 with (refine wpList_load_mid rfl 38 _ rfl p (o + k * 3) rfl [.string x.kind, .string x.name, .slice ax x.lines.length cx] _ hxl2 Tryd.underlying38 rfl (by kernel_rfl) ?_)
    rw [← hwq, ← hb1]
    clear hwq hb1 hbq hxl2 x0 xl hpz hk0 hkn
    have z0 := HBX.out.get 0 _ rfl
    have z1 := HBX.out.get 1 _ rfl
    have zl := HBX.out.own.lt
    have hsk : x.kind.size + x.name.size ≤ 1048576 := by have := HWB.out; unfold Pl.wbl at this; omega
    have l1 : ¬ (9223372036854775807 < x.kind.size + 1) := by omega
    have l2 : ¬ (9223372036854775807 < x.kind.size + 1 + x.name.size) := by omega
    have l3 : ¬ (9223372036854775807 < x.kind.size + 1 + x.name.size + 1) := by omega
    obtain ⟨T, hT⟩ : ∃ T, T = x.kind ++ (⟨#[32]⟩ : ByteArray) ++ x.name ++ (⟨#[10]⟩ : ByteArray) := ⟨_, rfl⟩
    have HTL : Hid (T.data.toList = x.kind.data.toList ++ [32] ++ x.name.data.toList ++ [10]) := by show _ = _; rw [hT]; simp [ByteArray.data_append]
    have hTz : T.size ≤ 1048578 := by rw [← Pl.len_data, HTL.out]; simp only [List.length_append, Pl.len_data, List.length_cons, List.length_nil]; omega
    have hT2 : x.kind ++ (⟨#[32]⟩ : ByteArray) ++ x.name ++ (⟨#[10]⟩ : ByteArray) = T := hT.symm
    clear hT
    go_upto_region 10 with (refine by_str rfl _ _ rfl (b0 + 1) (.slice sa O.length sc) O rfl HO.out T (by simp [Act.eval]) (by have := HLN.out; omega) (by have := HB0.out.own.lt; omega) ?_; intro v2 w2 q1 q2; have HQ := uh (And.intro q1 q2); clear q1 q2)
    have HNE0 := uh (HO.out.ne HB0.out (by decide))
    have HNE1 := uh (HO.out.ne HBX.out (by decide))
    replace HB0 := uh (HB0.out.grow HQ.out.2 HNE0.out)
    replace HBX := uh (HBX.out.grow HQ.out.2 HNE1.out)
    replace HW := uh (HO.out.below HW.out HQ.out.2 (by have := HBZ.out; omega))
    replace HO := uh HQ.out.1
    clear HQ HNE0 HNE1 z0 z1 zl hT2 l1 l2 l3
    rw [HTL.out] at HO
    obtain ⟨O1, hO1⟩ : ∃ O1, O1 = O ++ (x.kind.data.toList ++ [32] ++ x.name.data.toList ++ [10]) := ⟨_, rfl⟩
    have HO1L : Hid (O1.length ≤ 8388608) := by
      show _ ≤ _; rw [hO1]; simp only [List.length_append, Pl.len_data, List.length_cons, List.length_nil]
      have := HLN.out; omega
    have HN3 : Hid (Pl.sheetT (s.take (k + 1)) = O1 ++ Pl.linesT x.lines ++ [101, 110, 100, 10]) := by
      show _ = _; rw [HN1.out, hO1, Pl.blockT]; simp only [List.append_assoc]
    rw [← hO1] at HO
    obtain ⟨sa2, sc2, hv2⟩ := HO.out.shape
    subst hv2
    clear hO1 HN1 HLN HTL hTz hsk
    obtain ⟨wo, hwo⟩ : ∃ wo, wo = w2 := ⟨_, rfl⟩
    have HRL := uh (fun (W : World) (hW : Below w.heap.size w W) => HRX.out.later hW)
    go_wp2
    go_loopw [3, 7] (fun vo vi wr => ∃ q : Nat, q ≤ x.lines.length ∧ vi = .int .i64 q ∧ By wr (b0 + 1) vo (O1 ++ Pl.linesT (x.lines.take q)) ∧ WBox wr b0 29 [.slice (some ⟨p, o, none⟩) n vc] ∧ WBox wr b1 38 [.string x.kind, .string x.name, .slice ax x.lines.length cx] ∧ Below w.heap.size w wr) (fun _ vi _ => x.lines.length - (intOf vi).toNat)
    case atStart => exact ⟨0, Nat.zero_le _, rfl, by simpa [Pl.linesT] using HO.out, HB0.out, HBX.out, HW.out⟩
    case round =>
      clear HO HB0 HBX HW hwo
      obtain ⟨q, hq, rfl, hO, hB0, hBX, hW⟩ := hrel
      have HLQ : Hid (∀ q, (Pl.linesT (x.lines.take q)).length ≤ 6291456) := fun q => by
        have h1 := Pl.linesT_len (x.lines.take q)
        have h2 := Pl.sum_take_le (fun z => Pl.wln z + 1) x.lines q
        have h3 := HWB.out
        unfold Pl.wbl at h3
        omega
      have HO := uh hO
      have HB0 := uh hB0
      have HBX := uh hBX
      have HW := uh hW
      have z2 := hBX.get 2 _ rfl
      have zl := hBX.own.lt
      obtain ⟨sa3, sc3, hv3⟩ := hO.shape
      subst hv3
      clear hO hB0 hBX hW
      by_cases hql : q < x.lines.length
      rotate_left
      · have hks : x.lines.take q = x.lines := List.take_of_length_le (by omega)
        rw [hks] at HO ⊢
        have hll := HLQ.out q
        rw [hks] at hll
        clear hks
        obtain ⟨O2, hO2⟩ : ∃ O2, O2 = O1 ++ Pl.linesT x.lines := ⟨_, rfl⟩
        have HO2L : Hid (O2.length ≤ 16777216) := by show _ ≤ _; rw [hO2, List.length_append]; have := HO1L.out; omega
        rw [← hO2] at HO HN3 ⊢
        clear hO2 hll HLQ
        have hlo : b0 + 1 ≤ wr.heap.size := by have := HB0.out.own.lt; omega
        go_wp2_with (refine by_str rfl _ _ rfl (b0 + 1) (.slice sa3 O2.length sc3) O2 rfl HO.out ⟨#[101, 110, 100, 10]⟩ rfl (by have := HO2L.out; simp [ByteArray.size]; omega) hlo ?_; intro v4 w4 q1 q2; have HQ := uh (And.intro q1 q2); have zz := (HBX.out.grow q2 (HO.out.ne HBX.out (by decide))).get 2 _ rfl; have zzl := (HBX.out.grow q2 (HO.out.ne HBX.out (by decide))).own.lt; clear q1 q2)
        go_roundw
        case rel => exact ⟨k + 1, by omega, by go_num, by rw [HN2.out]; go_num, by rw [HN3.out]; exact HQ.out.1, HB0.out.grow HQ.out.2 (HO.out.ne HB0.out (by decide)), HO.out.below HW.out HQ.out.2 (by have := HBZ.out; omega)⟩
        case measure => simp [intOf]; omega
      have HM1 : Hid (Pl.linesT (x.lines.take (q + 1)) = Pl.linesT (x.lines.take q) ++ ([32, 32] ++ Pl.lineT (x.lines.getD q Pl.lnNo) ++ [10])) := by
        show _ = _
        rw [Pl.take_snocD Pl.lnNo x.lines q hql]; simp [Pl.linesT]
      have hwl : Pl.wln (x.lines.getD q Pl.lnNo) ≤ 1048576 := by
        have e : x.lines.getD q Pl.lnNo = x.lines[q] := by simp [hql]
        have h1 := Pl.sum_mem_le (fun z => Pl.wln z + 1) x.lines _ (List.getElem_mem hql)
        have h3 := HWB.out
        unfold Pl.wbl at h3
        rw [e]; omega
      have hlq := HLQ.out q
      rcases lns_open (HRL.out wr HW.out) with ⟨e0, _⟩ | ⟨p2, o2, c2, hv2, hp2, hml2, hopen2⟩
      · omega
      injection hv2 with k1 _ k3
      subst k1; subst k3
      unfold maxLen at hml2
      obtain ⟨az, cz, hgz, hrz⟩ := hopen2 q hql
      obtain ⟨z, hz⟩ : ∃ z, z = x.lines.getD q Pl.lnNo := ⟨_, rfl⟩
      rw [← hz] at hgz hrz HM1 hwl
      have hlz := Pl.lineT_len z
      have HC := uh (l40LineS z az cz wr hrz hwl)
      obtain ⟨O2, hO2⟩ : ∃ O2, O2 = O1 ++ Pl.linesT (x.lines.take q) := ⟨_, rfl⟩
      have HO2L : Hid (O2.length ≤ 16777216) := by show _ ≤ _; rw [hO2, List.length_append]; have := HO1L.out; omega
      rw [← hO2] at HO ⊢
      have HM2 : Hid (O1 ++ Pl.linesT (x.lines.take (q + 1)) = O2 ++ ([32, 32] ++ Pl.lineT z ++ [10])) := by show _ = _; rw [HM1.out, hO2]; simp only [List.append_assoc]
      have hq0 : (0 : Int) ≤ (q : Int) := by omega
      have hqn : (q : Int) < (x.lines.length : Int) := by omega
      obtain ⟨Y, hY⟩ : ∃ Y : ByteArray, Y = ⟨(Pl.lineT z).toArray⟩ := ⟨_, rfl⟩
      rw [← hY] at HC
      have hYz : Y.size ≤ 3145728 := by rw [hY]; simp [ByteArray.size]; omega
      have HYL : Hid (Y.data.toList = Pl.lineT z) := by show _ = _; rw [hY]
      have l1 : ¬ (9223372036854775807 < 2 + Y.size) := by omega
      have l2 : ¬ (9223372036854775807 < 2 + Y.size + 1) := by omega
      clear hz hO2 hopen2 hrz HM1 hwl hlz hlq HLQ hY
      go_wp2_with (refine wpList_load_mid rfl 42 _ rfl p2 (o2 + q * 2) rfl [.string z.key, .slice az z.ws.length cz] _ hgz Tryd.underlying42 rfl (by kernel_rfl) ?_)
      refine HC.out.mono ?_
      rintro e w3 ⟨rfl, hb3⟩
      replace HO := uh (HO.out.later hb3)
      replace HB0 := uh (HB0.out.later hb3)
      replace HBX := uh (HBX.out.later hb3)
      replace HW := uh (blw_trans HW.out hb3)
      clear hb3 HC hgz z2 zl
      obtain ⟨T, hT⟩ : ∃ T, T = (⟨#[32, 32]⟩ : ByteArray) ++ Y ++ (⟨#[10]⟩ : ByteArray) := ⟨_, rfl⟩
      have HTL : Hid (T.data.toList = [32, 32] ++ Pl.lineT z ++ [10]) := by show _ = _; rw [hT]; simp [ByteArray.data_append, HYL.out]
      have hTz : T.size ≤ 4194304 := by rw [← Pl.len_data, HTL.out, ← HYL.out]; simp only [List.length_append, Pl.len_data, List.length_cons, List.length_nil]; omega
      have hT2 : (⟨#[32, 32]⟩ : ByteArray) ++ Y ++ (⟨#[10]⟩ : ByteArray) = T := hT.symm
      have hlo : b0 + 1 ≤ w3.heap.size := by have := HB0.out.own.lt; omega
      clear hT
      go_wp2_with (refine by_str rfl _ _ rfl (b0 + 1) (.slice sa3 O2.length sc3) O2 rfl HO.out T (by simp [Act.eval]) (by have := HO2L.out; omega) hlo ?_; intro v4 w4 q1 q2; have HQ := uh (And.intro q1 q2); clear q1 q2)
      go_roundw
      case rel => exact ⟨q + 1, by omega, by go_num, by rw [HM2.out, ← HTL.out]; exact HQ.out.1, HB0.out.grow HQ.out.2 (HO.out.ne HB0.out (by decide)), HBX.out.grow HQ.out.2 (HO.out.ne HBX.out (by decide)), HO.out.below HW.out HQ.out.2 (by have := HBZ.out; omega)⟩
      case measure => simp [intOf]; omega

end Go.Proofs.YteemfpocmmainaaDoor
