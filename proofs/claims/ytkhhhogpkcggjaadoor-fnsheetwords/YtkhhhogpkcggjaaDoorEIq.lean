/-
  Sheets: words in quotes: the program.
-/
import Derived.Test.YtkhhhogpkcggjaaDoorEIa
namespace Go.Proofs.YtkhhhogpkcggjaaDoor
open Go.RowKit Go.Deep

set_option maxRecDepth 100000 in
set_option maxHeartbeats 4000000 in
theorem indexByteL (s : ByteArray) (c : UInt8) (w : World) :
    Calls Tryd.prog 41 #[.string s, .int .u8 c.toNat] w fun e w' => e = .returned (.int .i64 (Lib.indexByte s.data.toList c)) ∧ w = w' := by
  have hc : ((c.toNat : Int)).toNat.toUInt8 = c := by simp
  have HE := uh hc
  clear hc
  go_enter Tryd.func41, Tryd.ntmps41
  go_wp2
  rw [run_callFunc_extern Tryd.func42 (by kernel_rfl) (by kernel_rfl) (by kernel_rfl) (e := Extern.BytealgIndexByte.indexByte) (by kernel_rfl), Lib.run_indexByteString]
  simp only [Result.andThen]
  rw [Oper.upon_value]
  rw [HE.out]
  go_wp2
  go_ret
  exact ⟨rfl, rfl⟩
set_option maxHeartbeats 4000000 in
theorem hexIxI (c : UInt8) (w : World) :
    Calls Tryd.prog 37 #[.string { data := #[48, 49, 50, 51, 52, 53, 54, 55, 56, 57, 97, 98, 99, 100, 101, 102] }, .int .u8 c.toNat] w fun e w' => e = .returned (.int .i64 (Pl.hexV c)) ∧ w = w' := by
  have HC := uh (indexByteL { data := #[48, 49, 50, 51, 52, 53, 54, 55, 56, 57, 97, 98, 99, 100, 101, 102] } c w)
  have HE : Hid (Lib.indexByte ({ data := #[48, 49, 50, 51, 52, 53, 54, 55, 56, 57, 97, 98, 99, 100, 101, 102] } : ByteArray).data.toList c = Pl.hexV c) := Pl.hex_index c
  rw [HE.out] at HC
  go_enter Tryd.func37, Tryd.ntmps37
  go_wp2_with (go_at_call 41; refine HC.out.mono ?_; rintro e w' ⟨rfl, rfl⟩)
  go_ret
  exact ⟨rfl, rfl⟩

theorem ret_bi {a b : UInt8} {c d : Int} (h : a = b) (g : c = d) : Ending.returned (.tuple #[.int .u8 a.toNat, .int .i64 c]) = .returned (.tuple #[.int .u8 b.toNat, .int .i64 d]) := by rw [h, g]

theorem or16 : ∀ a b : Fin 16, bits BinOp.or IntKind.i64 ((a.1 : Int) * 16) (b.1 : Int) % 256 = 16 * (a.1 : Int) + (b.1 : Int) := by decide +kernel
def VIq (s : ByteArray) (b1 b2 : UInt8) (x1 x2 : Int) : Nat → Value → World → Prop
  | 0, u, _ => u = .string s
  | 1, u, _ => u = .int .u8 (b1.toNat : Int)
  | 2, u, _ => u = .int .i64 x1
  | 3, u, _ => u = .string s
  | 4, u, _ => u = .int .u8 (b2.toNat : Int)
  | 5, u, _ => u = .int .i64 x2
  | 6, u, _ => u = .int .i64 x1
  | 7, u, _ => u = .int .i64 x2
  | _, _, _ => True
theorem VIq_mono (s : ByteArray) (b1 b2 : UInt8) (x1 x2 : Int) : ∀ j u W W', Below W.heap.size W W' → VIq s b1 b2 x1 x2 j u W → VIq s b1 b2 x1 x2 j u W' := by
  intro j u W W' hb h
  match j with
  | 0 => exact h
  | 1 => exact h
  | 2 => exact h
  | 3 => exact h
  | 4 => exact h
  | 5 => exact h
  | 6 => exact h
  | 7 => exact h
  | n + 8 => exact trivial
set_option maxRecDepth 8000 in
set_option maxHeartbeats 4000000 in
theorem readByteI (s : ByteArray) (c : UInt8) (l : List UInt8) (w : World) (hc : s.data.toList = c :: l) (hs : s.size ≤ 1048576) :
    Calls Tryd.prog 59 #[.string s] w fun e w' => e = .returned (.tuple #[.int .u8 (Pl.readB c l).1.toNat, .int .i64 ((Pl.readB c l).2 : Int)]) ∧ Below w.heap.size w w' := by
  have h1 := Pl.ba_pos hc
  have hat := Pl.ba_at hc (by omega)
  have hlen : l.length + 1 = s.size := by rw [← Pl.len_data, hc, List.length_cons]
  have HP := uh (fun w => sheetIsPlainI c w)
  have HC := uh hc
  clear hc
  cases hsf : Pl.selfB c
  rotate_left
  · have HR : Hid (Pl.readB c l = (c, 1)) := by show _ = _; unfold Pl.readB; rw [if_pos hsf]
    rw [hsf] at HP
    clear hsf
    go_enter Tryd.func59, Tryd.ntmps59
    go_wp2_with (go_at_call 26; refine (HP.out _).mono ?_; rintro e w' ⟨rfl, rfl⟩)
    go_ret2
    rw [HR.out]
    exact ⟨rfl, Below.refl _ _⟩
  have HSF := uh hsf
  rw [hsf] at HP
  clear hsf
  by_cases h92 : c.toNat = 92
  rotate_left
  · have HR : Hid (Pl.readB c l = (0, 0)) := by show _ = _; unfold Pl.readB; rw [if_neg (by rw [HSF.out]; decide), if_neg (fun e => h92 e.1)]
    have d1 : ((c.toNat : Int) != 92) = true := by simp; omega
    clear h92
    go_enter Tryd.func59, Tryd.ntmps59
    go_wp2_with (go_at_call 26; refine (HP.out _).mono ?_; rintro e w' ⟨rfl, rfl⟩)
    go_ret2
    rw [HR.out]
    exact ⟨rfl, Below.refl _ _⟩
  have d1 : ((c.toNat : Int) != 92) = false := by simp; omega
  by_cases h3 : 3 ≤ s.size
  rotate_left
  · have HR : Hid (Pl.readB c l = (0, 0)) := by show _ = _; unfold Pl.readB; rw [if_neg (by rw [HSF.out]; decide), if_neg (fun e => by have := e.2.1; omega)]
    have d3 : decide ((s.size : Int) < 3) = true := by simp; omega
    clear h92
    go_enter Tryd.func59, Tryd.ntmps59
    go_wp2_with (go_at_call 26; refine (HP.out _).mono ?_; rintro e w' ⟨rfl, rfl⟩)
    go_ret2
    rw [HR.out]
    exact ⟨rfl, Below.refl _ _⟩
  have d3 : decide ((s.size : Int) < 3) = false := by simp; omega
  have e1 : s[1] = l.getD 0 0 := by
    have := Pl.dropD s 0 1 (by omega)
    rw [List.drop_zero, HC.out] at this
    simpa using this.symm
  have e2 : s[2] = l.getD 1 0 := by
    have := Pl.dropD s 0 2 (by omega)
    rw [List.drop_zero, HC.out] at this
    simpa using this.symm
  have HR : Hid (Pl.readB c l = if 0 ≤ Pl.hexV (l.getD 0 0) ∧ 0 ≤ Pl.hexV (l.getD 1 0) then (UInt8.ofNat (16 * Pl.hexV (l.getD 0 0) + Pl.hexV (l.getD 1 0)).toNat, 3) else (0, 0)) := by
    show _ = _
    unfold Pl.readB
    rw [if_neg (by rw [HSF.out]; decide)]
    by_cases hx : 0 ≤ Pl.hexV (l.getD 0 0) ∧ 0 ≤ Pl.hexV (l.getD 1 0)
    · rw [if_pos hx, if_pos ⟨h92, by omega, hx⟩]
    · rw [if_neg hx, if_neg (fun e => hx e.2.2)]
  obtain ⟨b1, hb1⟩ : ∃ b, b = l.getD 0 0 := ⟨_, rfl⟩
  obtain ⟨b2, hb2⟩ : ∃ b, b = l.getD 1 0 := ⟨_, rfl⟩
  rw [← hb1] at e1 HR
  rw [← hb2] at e2 HR
  have HC1 := uh (fun w => hexIxI b1 w)
  have HC2 := uh (fun w => hexIxI b2 w)
  have g1 := Pl.hexV_bd b1
  have g2 := Pl.hexV_bd b2
  obtain ⟨x1, hx1⟩ : ∃ x, x = Pl.hexV b1 := ⟨_, rfl⟩
  obtain ⟨x2, hx2⟩ : ∃ x, x = Pl.hexV b2 := ⟨_, rfl⟩
  rw [← hx1] at HC1 HR g1
  rw [← hx2] at HC2 HR g2
  clear hb1 hb2 hx1 hx2 h92 HC HSF
  have HI1 : Hid (∀ w, (Instr.index 9 (.string s) (.int .i64 1)).run Tryd.prog w = .ok (.int .u8 b1.toNat) w) := fun w => by
    rw [run_index_string w 9 _ .i64 1 (by kernel_rfl), dif_pos ⟨by omega, by omega⟩, ← e1]; rfl
  have HI2 : Hid (∀ w, (Instr.index 9 (.string s) (.int .i64 2)).run Tryd.prog w = .ok (.int .u8 b2.toNat) w) := fun w => by
    rw [run_index_string w 9 _ .i64 2 (by kernel_rfl), dif_pos ⟨by omega, by omega⟩, ← e2]; rfl
  clear e1 e2
  go_enter Tryd.func59, Tryd.ntmps59
  go_upto_region 5 with (go_at_call 26; refine (HP.out _).mono ?_; rintro e w' ⟨rfl, rfl⟩)
  refine RY.region_past w (Below.refl _ _) (VIq s b1 b2 x1 x2) (VIq_mono _ _ _ _ _) (by kernel_rfl) (by kernel_rfl) (by kernel_rfl) (by kernel_rfl) ?_ ?_
  · intro i o' ho a X hX hk hd
    match i, ho with
    | 0, ho =>
      injection ho with ho; subst ho
      have e0 : a.tmps[0]?.getD undef = .string s := (RY.ev_tmp a 0).trans ((hk 0 (by kernel_rfl)).trans rfl)
      exact Or.inl ⟨.string s, X, by simp [execOp, go_sem, e0], Below.refl _ _, rfl⟩
    | 1, ho =>
      injection ho with ho; subst ho
      have e19 : a.tmps[19]?.getD undef = _ := (RY.ev_tmp a 19).trans (hd 0 _ 19 rfl rfl ⟨⟨0, .data⟩, by simp, rfl, rfl⟩)
      exact Or.inl ⟨.int .u8 (b1.toNat : Int), X, by simp [execOp, go_sem, e19, HI1.out X], Below.refl _ _, rfl⟩
    | 2, ho =>
      injection ho with ho; subst ho
      have e20 : a.tmps[20]?.getD undef = _ := (RY.ev_tmp a 20).trans (hd 1 _ 20 rfl rfl ⟨⟨1, .data⟩, by simp, rfl, rfl⟩)
      refine Or.inr ⟨37, #[.string { data := #[48, 49, 50, 51, 52, 53, 54, 55, 56, 57, 97, 98, 99, 100, 101, 102] }, .int .u8 b1.toNat], by simp [go_sem, e20], (HC1.out X).mono ?_⟩
      rintro e W' ⟨rfl, rfl⟩
      exact ⟨_, rfl, Below.refl _ _, rfl⟩
    | 3, ho =>
      injection ho with ho; subst ho
      have e0 : a.tmps[0]?.getD undef = .string s := (RY.ev_tmp a 0).trans ((hk 0 (by kernel_rfl)).trans rfl)
      exact Or.inl ⟨.string s, X, by simp [execOp, go_sem, e0], Below.refl _ _, rfl⟩
    | 4, ho =>
      injection ho with ho; subst ho
      have e22 : a.tmps[22]?.getD undef = _ := (RY.ev_tmp a 22).trans (hd 3 _ 22 rfl rfl ⟨⟨3, .data⟩, by simp, rfl, rfl⟩)
      exact Or.inl ⟨.int .u8 (b2.toNat : Int), X, by simp [execOp, go_sem, e22, HI2.out X], Below.refl _ _, rfl⟩
    | 5, ho =>
      injection ho with ho; subst ho
      have e23 : a.tmps[23]?.getD undef = _ := (RY.ev_tmp a 23).trans (hd 4 _ 23 rfl rfl ⟨⟨4, .data⟩, by simp, rfl, rfl⟩)
      refine Or.inr ⟨37, #[.string { data := #[48, 49, 50, 51, 52, 53, 54, 55, 56, 57, 97, 98, 99, 100, 101, 102] }, .int .u8 b2.toNat], by simp [go_sem, e23], (HC2.out X).mono ?_⟩
      rintro e W' ⟨rfl, rfl⟩
      exact ⟨_, rfl, Below.refl _ _, rfl⟩
    | 6, ho =>
      injection ho with ho; subst ho
      have e21 : a.tmps[21]?.getD undef = _ := (RY.ev_tmp a 21).trans (hd 2 _ 21 rfl rfl ⟨⟨2, .data⟩, by simp, rfl, rfl⟩)
      exact Or.inl ⟨.int .i64 x1, X, by simp [execOp, go_sem, e21], Below.refl _ _, rfl⟩
    | 7, ho =>
      injection ho with ho; subst ho
      have e24 : a.tmps[24]?.getD undef = _ := (RY.ev_tmp a 24).trans (hd 5 _ 24 rfl rfl ⟨⟨5, .data⟩, by simp, rfl, rfl⟩)
      exact Or.inl ⟨.int .i64 x2, X, by simp [execOp, go_sem, e24], Below.refl _ _, rfl⟩
    | n + 8, ho => simp at ho
  intro X vs hX hvs
  have q4 : vs 4 = _ := hvs 6 _ 4 rfl rfl
  have q5 : vs 5 = _ := hvs 7 _ 5 rfl rfl
  simp only [RY.putAll, Act.put, List.setIfInBounds_toArray, List.set_cons_zero, List.set_cons_succ]
  rw [q4, q5]
  generalize vs 19 = s19
  generalize vs 20 = s20
  generalize vs 21 = s21
  generalize vs 22 = s22
  generalize vs 23 = s23
  generalize vs 24 = s24
  clear hvs q4 q5
  replace hX := uh hX
  have HXW := hX
  clear hX
  by_cases p1 : x1 < 0
  · have HF : Hid (Pl.readB c l = (0, 0)) := by show _ = _; rw [HR.out, if_neg (by omega)]
    go_wp2
    go_ret2
    rw [HF.out]
    exact ⟨rfl, HXW.out⟩
  by_cases p2 : x2 < 0
  · have HF : Hid (Pl.readB c l = (0, 0)) := by show _ = _; rw [HR.out, if_neg (by omega)]
    go_wp2
    go_ret2
    rw [HF.out]
    exact ⟨rfl, HXW.out⟩
  have HF : Hid (Pl.readB c l = (UInt8.ofNat (16 * x1 + x2).toNat, 3)) := by show _ = _; rw [HR.out, if_pos (by omega)]
  go_wp2
  go_ret2
  rw [HF.out]
  refine ⟨?_, HXW.out⟩
  have e := or16 ⟨x1.toNat, by omega⟩ ⟨x2.toNat, by omega⟩
  have a1 : ((x1.toNat : Nat) : Int) = x1 := by omega
  have a2 : ((x2.toNat : Nat) : Int) = x2 := by omega
  simp only [a1, a2] at e
  have e' : ((UInt8.ofNat (16 * x1 + x2).toNat).toNat : Int) = 16 * x1 + x2 := by rw [UInt8.toNat_ofNat']; omega
  show Ending.returned (.tuple #[.int .u8 (bits BinOp.or IntKind.i64 (x1 * 16) x2 % 256), .int .i64 3]) = .returned (.tuple #[.int .u8 ((UInt8.ofNat (16 * x1 + x2).toNat).toNat : Int), .int .i64 3])
  rw [e, e']

def strLen (v : Value) : Nat := match v with
  | .string x => x.size
  | _ => 0
def QuoA (s : ByteArray) (r : List UInt8) (w : World) (e : Ending) (w' : World) : Prop :=
  Below w.heap.size w w' ∧ ((Pl.quoL r = none ∧ ∃ a b, e = .returned (.tuple #[.string a, .string b, .bool false])) ∨ ∃ x n b, Pl.quoL r = some (x, n) ∧ ByteArray.toList b = r.drop n ∧ b.size ≤ s.size ∧ e = .returned (.tuple #[.string ⟨x.toArray⟩, .string b, .bool true]))
set_option maxRecDepth 8000 in
set_option maxHeartbeats 4000000 in
theorem quotedScanI (s : ByteArray) (c0 : UInt8) (r : List UInt8) (w : World) (hc : s.data.toList = c0 :: r) (hs : s.size ≤ 1048576) :
    Calls Tryd.prog 58 #[.agg #[], .string s] w (QuoA s r w) := by
  have h1 := Pl.ba_pos hc
  have hlen : r.length + 1 = s.size := by rw [← Pl.len_data, hc, List.length_cons]
  have HT : Hid ((s.extract 1 s.size).data.toList = r) := by show _ = _; rw [Pl.ext_end, hc]; rfl
  clear hc
  go_enter Tryd.func58, Tryd.ntmps58
  go_wp2
  go_loopw [7, 8] (fun v u wr => ∃ (O : List UInt8) (x : ByteArray) (k : Nat), u = .string x ∧ By wr w.heap.size v O ∧ O.length ≤ k ∧ k + x.size = r.length ∧ x.data.toList = r.drop k ∧ Below w.heap.size w wr ∧ Pl.quoL r = (Pl.quoL (r.drop k)).map fun p => (O ++ p.1, k + p.2)) (fun _ u _ => strLen u)
  case atStart => exact ⟨[], s.extract 1 s.size, 0, rfl, By.nil _ _, Nat.le_refl _, by rw [← Pl.len_data, HT.out]; omega, HT.out, blw_alloc (Below.refl _ _) _, by simp⟩
  case round =>
    obtain ⟨O, x, k, rfl, hO, hll, hkx, hx, hW, hX⟩ := hrel
    have HLL := uh hll
    have HO := uh hO
    have HW := uh hW
    have HX := uh hX
    have HXD := uh hx
    obtain ⟨sa, sc, hv⟩ := hO.shape
    subst hv
    clear hO hW hll hX hx HT
    by_cases hx1 : 1 ≤ x.size
    rotate_left
    · have h0 := Pl.empty_yes x hx1
      have HR : Hid (Pl.quoL r = none) := by
        show _ = _
        have e : r.drop k = [] := by rw [← HXD.out]; exact List.eq_nil_of_length_eq_zero (by rw [Pl.len_data]; omega)
        rw [HX.out, e, Pl.quoL]; rfl
      go_wp2
      go_ret3
      exact ⟨HW.out, Or.inl ⟨HR.out, _, _, rfl⟩⟩
    have h0 := Pl.empty_no x hx1
    obtain ⟨c, hcx⟩ : ∃ c, c = x[0] := ⟨_, rfl⟩
    have hdr : x.data.toList = c :: x.data.toList.drop 1 := by
      have := Pl.drop_at x 0 (by omega)
      rw [List.drop_zero] at this
      rw [hcx]; exact this
    have hat : x[0] = c := hcx.symm
    clear hcx
    obtain ⟨l, hl⟩ : ∃ l, l = x.data.toList.drop 1 := ⟨_, rfl⟩
    rw [← hl] at hdr
    have HRD : Hid (r.drop k = c :: l) := by show _ = _; rw [← HXD.out, hdr]
    have HCX := uh (fun W => readByteI x c l W hdr (by omega))
    have HB8 := uh (Pl.u8lt c)
    have HD := uh hdr
    clear hdr hl
    by_cases c34 : c.toNat = 34
    · have d1 : ((c.toNat : Int) == 34) = true := by simp; omega
      have HR : Hid (Pl.quoL r = some (O, k + 1)) := by
        show _ = _
        rw [HX.out, HRD.out, Pl.quoL, if_pos c34]; simp
      have HE : Hid ((x.extract 1 x.size).toList = r.drop (k + 1)) := by
        show _ = _
        rw [Pl.tl, Pl.ext_end, HXD.out, List.drop_drop]
      have hcv := (HO.out.later (Below.drew (Below.refl wr.heap.size wr))).str_any
      clear c34 HCX
      go_wp2
      go_region
      all_goals go_wp2
      all_goals go_ret3
      all_goals refine ⟨?_, Or.inr ⟨O, k + 1, _, HR.out, HE.out, by simp [ByteArray.size_extract]; omega, rfl⟩⟩
      all_goals repeat (first | exact HW.out | refine blw_alloc ?_ _ | refine Below.drew ?_)
    have d1 : ((c.toNat : Int) == 34) = false := by simp; omega
    have HQ := uh (Pl.quo_read c l c34)
    obtain ⟨b, n, hbn⟩ : ∃ b n, Pl.readB c l = (b, n) := ⟨_, _, rfl⟩
    have hn : n = 0 ∨ n = 1 ∨ n = 3 ∧ 2 ≤ l.length := by
      unfold Pl.readB at hbn
      split at hbn
      · injection hbn with _ h; omega
      · split at hbn
        · rename_i hh; injection hbn with _ h; have := hh.2.1; omega
        · injection hbn with _ h; omega
    have hn' : n ≤ x.size := by
      have e : x.size = l.length + 1 := by rw [← Pl.len_data, HD.out, List.length_cons]
      omega
    rw [hbn] at HQ HCX
    simp only at HQ HCX
    clear c34 hbn
    by_cases hn0 : n = 0
    · subst hn0
      have HR : Hid (Pl.quoL r = none) := by show _ = _; rw [HX.out, HRD.out, HQ.out]; rfl
      go_wp2_with fail
      refine (HCX.out _).mono ?_
      rintro e w1 ⟨rfl, hb1⟩
      go_wp2
      go_ret3
      exact ⟨blw_trans HW.out hb1, Or.inl ⟨HR.out, _, _, rfl⟩⟩
    have d2 : ((n : Int) == 0) = false := by simp; omega
    have HN : Hid (Pl.quoL r = (Pl.quoL (r.drop (k + n))).map fun p => ((O ++ [b]) ++ p.1, (k + n) + p.2)) := by
      show _ = _
      rw [HX.out, HRD.out, HQ.out, if_neg hn0, ← HRD.out, List.drop_drop, Option.map_map]
      congr 1
      funext p
      simp only [Function.comp, Prod.mk.injEq]
      exact ⟨by simp, by omega⟩
    have HE : Hid ((x.extract n x.size).data.toList = r.drop (k + n)) := by
      show _ = _
      rw [Pl.ext_end, HXD.out, List.drop_drop]
    have hnn : (n : Int) ≤ (x.size : Int) := by omega
    have hn0' : (0 : Int) ≤ (n : Int) := by omega
    go_wp2_with fail
    refine (HCX.out _).mono ?_
    rintro e w1 ⟨rfl, hb1⟩
    replace HO := uh (HO.out.later hb1)
    replace HW := uh (blw_trans HW.out hb1)
    clear hb1
    go_wp2_with (refine by_push rfl _ _ rfl w.heap.size (.slice sa O.length sc) O rfl (HO.out.later (blw_alloc (Below.refl _ _) _)) w1.heap.size 1 1 [b] rfl rfl (World.news_of_block (cs := #[.int .u8 (b.toNat : Int)]) (heap_alloc_new w1 _)) (by decide) (by have := HLL.out; omega) (by have := HW.out.size; simp; omega) ?_; intro g1 c1 w2 q1 q2)
    go_roundw
    case rel => exact ⟨O ++ [b], _, k + n, rfl, by simpa using q1, by have := HLL.out; simp; omega, by simp [ByteArray.size_extract]; omega, HE.out, (HO.out.later (blw_alloc (Below.refl _ _) _)).below (blw_alloc HW.out _) q2 (Nat.le_refl _), HN.out⟩
    case measure => simp [strLen, ByteArray.size_extract]; omega

end Go.Proofs.YtkhhhogpkcggjaaDoor
