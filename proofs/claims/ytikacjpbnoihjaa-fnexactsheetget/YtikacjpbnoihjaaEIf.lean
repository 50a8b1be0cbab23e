/-
  Sheets: what fits: the program.
-/
import Derived.Test.YtikacjpbnoihjaaEIr
import Derived.Test.YtikacjpbnoihjaaEIe
import Derived.Test.YtikacjpbnoihjaaEFd
namespace Go.Proofs.Ytikacjpbnoihjaa
open Go.RowKit Go.Deep

theorem Pl.rules_args (kind : ByteArray) : ∀ r ∈ Pl.rulesOf kind, ∀ z ∈ r.args, 1 ≤ z ∧ z ≤ 6 := by
  unfold Pl.rulesOf
  split
  · decide
  · split
    · decide
    · split
      · decide
      · intro r hr; cases hr
theorem Pl.rules_len (kind : ByteArray) : (Pl.rulesOf kind).length ≤ 100 := by
  unfold Pl.rulesOf
  split
  · decide
  · split
    · decide
    · split <;> decide

set_option maxHeartbeats 1000000 in
/-- The closure: is it the rule of this key? -/
theorem keyIsI (x key : ByteArray) (v1 v3 : Value) (m : Bool) (B : Nat) (w : World) (hB : w.cell? ⟨B, 0, none⟩ = some (.string key)) (hlt : B < w.heap.size) :
    Calls Try.prog 65 #[.agg #[.string x, v1, .bool m, v3], .pointer (some ⟨B, 0, none⟩)] w fun e w' => e = .returned (.bool (x.toList == key.toList)) ∧ Below w.heap.size w w' := by
  have hne : B ≠ w.heap.size := by omega
  go_enter Try.func65, Try.ntmps65
  go_wp2
  go_ret
  refine ⟨rfl, ?_⟩
  repeat (first | exact Below.refl _ _ | refine blw_alloc ?_ _ | refine Below.drew ?_)

set_option maxRecDepth 8000 in
set_option maxHeartbeats 4000000 in
theorem ruleIxI (l : List Pl.Ru) (va : Option Addr) (vc : Nat) (key : ByteArray) (B : Nat) (w : World) (hl : l.length ≤ 100) (h : Raw w [.row 48 shSheetRule] [rulesD l] [.slice va l.length vc]) (hB : w.cell? ⟨B, 0, none⟩ = some (.string key)) (hBl : B < w.heap.size) :
    Calls Try.prog 64 #[.slice va l.length vc, .func (.func 65) #[] #[.pointer (some ⟨B, 0, none⟩)]] w fun e w' => e = .returned (.int .i64 (Pl.ixI (Pl.ruIx l key))) ∧ Below w.heap.size w w' := by
  have HR := uh h
  have HK := uh (And.intro hB hBl)
  clear h hB hBl
  go_enter Try.func64, Try.ntmps64
  go_wp2
  go_loopw [8] (fun i wr => ∃ k : Nat, k ≤ l.length ∧ i = .int .i64 k ∧ Pl.ruIx l key = Pl.ruIxF key (l.drop k) k ∧ Below w.heap.size w wr) (fun i _ => l.length - (intOf i).toNat)
  case atStart => exact ⟨0, Nat.zero_le _, rfl, rfl, Below.refl _ _⟩
  case round =>
    obtain ⟨k, hk, rfl, hI, hW⟩ := hrel
    have HI := uh hI
    have HW := uh hW
    clear hI hW
    by_cases hlt : k < l.length
    · obtain ⟨p, o, c, a1, c1, v3, hv, hp, hg, _, _⟩ := rule_at (HR.out.later HW.out) hlt
      injection hv with e1 _ e3
      subst e1; subst e3
      have y0 : wr.cell? ⟨p, o + k * 4, none⟩ = some (.string (l.getD k Pl.ruNo).key) := rA_get hg 0 _ rfl
      have y1 := rA_get hg 1 _ rfl
      have y2 := rA_get hg 2 _ rfl
      have y3 := rA_get hg 3 _ rfl
      have hk0 : (0 : Int) ≤ (k : Int) := by omega
      have hkn : (k : Int) < (l.length : Int) := by omega
      have HM := uh (fun h => Pl.ruIx_miss hlt HI.out h)
      have HH := uh (fun h => Pl.ruIx_hit hlt HI.out h)
      obtain ⟨x, hx⟩ : ∃ x, x = (l.getD k Pl.ruNo).key := ⟨_, rfl⟩
      obtain ⟨m, hm⟩ : ∃ m, m = (l.getD k Pl.ruNo).many := ⟨_, rfl⟩
      obtain ⟨n1, hn1⟩ : ∃ n1, n1 = (l.getD k Pl.ruNo).args.length := ⟨_, rfl⟩
      rw [← hx] at y0 HM HH
      rw [← hn1] at y1
      rw [← hm] at y2
      have HC := uh (keyIsI x key (.slice a1 n1 c1) v3 m B wr ((HW.out.cell (p := ⟨B, 0, none⟩) HK.out.2).trans HK.out.1) (Nat.lt_of_lt_of_le HK.out.2 HW.out.size))
      clear hx hm hn1 hg
      cases hq : (x.toList == key.toList)
      · have HX := uh (HM.out hq)
        rw [hq] at HC
        clear hq
        go_wp2_with fail
        refine HC.out.mono ?_
        rintro e w1 ⟨rfl, hb⟩
        go_wp2
        go_roundw
        case rel => exact ⟨k + 1, by omega, by go_num, HX.out, blw_trans HW.out hb⟩
        case measure => simp [intOf]; omega
      · have HX : Hid ((k : Int) = Pl.ixI (Pl.ruIx l key)) := by show _ = _; rw [HH.out hq]; rfl
        rw [hq] at HC
        clear hq
        go_wp2_with fail
        refine HC.out.mono ?_
        rintro e w1 ⟨rfl, hb⟩
        go_wp2
        go_ret
        exact ⟨Pl.ret_int HX.out, blw_trans HW.out hb⟩
    · obtain rfl : k = l.length := by omega
      have HX : Hid (-1 = Pl.ixI (Pl.ruIx l key)) := by show _ = _; rw [Pl.ruIx_end HI.out]; rfl
      go_wp2
      go_ret
      exact ⟨Pl.ret_int HX.out, HW.out⟩

set_option maxRecDepth 8000 in
set_option maxHeartbeats 8000000 in
theorem sheetTakesI (x : ByteArray) (m : Bool) (ag : List Int) (a1 : Option Addr) (c1 : Nat) (v3 : Value) (ws : List ByteArray) (wv : Value) (w : World) (hA : Raw w [.row 3 [.i]] [.row ag.length (ag.map .i)] [.slice a1 ag.length c1]) (hw : Raw w [.row 9 [.s]] [.row ws.length (txD ws)] [wv]) (hz : ∀ z ∈ ag, 1 ≤ z ∧ z ≤ 6) (hs : ∀ x ∈ ws, x.size ≤ maxLen) :
    Calls Try.prog 59 #[.agg #[.string x, .slice a1 ag.length c1, .bool m, v3], wv] w fun e w' => e = .returned (.bool (Pl.fitsW ag ws)) ∧ Below w.heap.size w w' := by
  obtain ⟨wa2, wc2, hwv⟩ := hw.len0
  subst hwv
  have HSZ := uh hs
  have HZ := uh hz
  by_cases hlen : ag.length = ws.length
  rotate_left
  · have hne : ((ws.length : Int) != (ag.length : Int)) = true := by simp; omega
    have HX : Hid (Pl.fitsW ag ws = false) := by show _ = _; rw [Pl.fitsW]; simp [hlen]
    clear hlen hA hw
    go_enter Try.func59, Try.ntmps59
    go_wp2
    go_ret
    rw [HX.out]
    exact ⟨rfl, blw_alloc (Below.refl _ _) _⟩
  have HX : Hid (Pl.fitsW ag ws = Pl.fitsA ag ws) := by show _ = _; rw [Pl.fitsW]; simp [hlen]
  rw [hlen] at hA ⊢
  obtain ⟨n, hn⟩ : ∃ n, n = ws.length := ⟨_, rfl⟩
  rw [← hn] at hA hw hlen ⊢
  have HLN : Hid (ag.length = n ∧ ws.length = n) := ⟨hlen, hn.symm⟩
  have HA := uh hA
  have HWN := uh hw
  have hne : ((n : Int) != (n : Int)) = false := by simp
  clear hn hlen hA hw hz hs
  go_enter Try.func59, Try.ntmps59
  go_wp2
  go_loop [16] (fun i => ∃ k : Nat, k ≤ n ∧ i = .int .i64 k ∧ Hid (Pl.fitsA ag ws = Pl.fitsA (ag.drop k) (ws.drop k))) (fun i => n - (intOf i).toNat)
  case atStart => exact ⟨0, Nat.zero_le _, rfl, rfl⟩
  case round =>
    obtain ⟨k, hk, rfl, HI⟩ := hrel
    by_cases hlt : k < n
    rotate_left
    · obtain rfl : k = n := by omega
      have HE : Hid (Pl.fitsW ag ws = true) := by
        show _ = _
        rw [HX.out, HI.out, List.drop_of_length_le (by have := HLN.out.1; omega), Pl.fitsA]
        intro _ _ _ _ h; cases h
      go_wp2
      go_ret
      rw [HE.out]
      exact ⟨rfl, blw_alloc (Below.refl _ _) _⟩
    have HS := uh (@Pl.fitsA_at ag ws k (by have := HLN.out.1; omega) (by have := HLN.out.2; omega))
    obtain ⟨z, hz⟩ : ∃ z, z = ag.getD k 0 := ⟨_, rfl⟩
    obtain ⟨y, hy⟩ : ∃ y, y = ws.getD k ⟨#[]⟩ := ⟨_, rfl⟩
    have hys : y.size ≤ maxLen := by
      have hkl : k < ws.length := by have := HLN.out.2; omega
      have e : ws.getD k ⟨#[]⟩ = ws[k] := by simp [hkl]
      rw [hy, e]; exact HSZ.out _ (List.getElem_mem hkl)
    have hzz : 1 ≤ z ∧ z ≤ 6 := by
      have hkl : k < ag.length := by have := HLN.out.1; omega
      have e : ag.getD k 0 = ag[k] := by simp [hkl]
      rw [hz, e]; exact HZ.out _ (List.getElem_mem hkl)
    have HCF := uh (fun W => sheetTypeFitsI z y W hys hzz)
    rcases HA.out.slice with ⟨e0, _⟩ | ⟨p1, o1, c1', hv1, hp1, _, vs1, hr1, hR1⟩
    · omega
    rcases HWN.out.slice with ⟨e0, _⟩ | ⟨p2, o2, c2', hv2, hp2, hml, vs2, hr2, hR2⟩
    · omega
    have hmx := hml.1
    unfold maxLen at hmx
    clear hml
    injection hv1 with g1 _ g3
    injection hv2 with k1 _ k3
    subst g1; subst g3; subst k1; subst k3
    obtain ⟨ve1, hE1, hg1⟩ := hR1.el hlt hr1
    obtain ⟨ve2, hE2, hg2⟩ := hR2.el hlt hr2
    have hel1 : el 1 k (ag.map Dt.i) = [.i z] := by rw [hz]; exact el_map1 0 Dt.i ag k (by have := HLN.out.1; omega)
    have hel2 : el 1 k (txD ws) = [.s y] := by rw [hy]; exact el_map1 ⟨#[]⟩ Dt.s ws k (by have := HLN.out.2; omega)
    have hE1' : Raw w [.i] [.i z] ve1 := by rw [← hel1]; exact hE1
    have hE2' : Raw w [.s] [.s y] ve2 := by rw [← hel2]; exact hE2
    obtain rfl := rawN1 hE1'
    obtain rfl := rawT1 hE2'
    have y1 : w.cell? ⟨p1, o1 + k, none⟩ = some (.int .i64 z) := by have := rA_get hg1 0 _ rfl; simpa using this
    have y2 : w.cell? ⟨p2, o2 + k, none⟩ = some (.string y) := by have := rA_get hg2 0 _ rfl; simpa using this
    have z1 : (w.alloc (.cells #[.string x, .slice (some ⟨p1, o1, none⟩) n c1, .bool m, v3] 48)).cell? ⟨p1, o1 + k, none⟩ = some (.int .i64 z) := ((blw_alloc (Below.refl _ _) _).cell (p := ⟨p1, o1 + k, none⟩) hp1).trans y1
    have z2 : (w.alloc (.cells #[.string x, .slice (some ⟨p1, o1, none⟩) n c1, .bool m, v3] 48)).cell? ⟨p2, o2 + k, none⟩ = some (.string y) := ((blw_alloc (Below.refl _ _) _).cell (p := ⟨p2, o2 + k, none⟩) hp2).trans y2
    clear y1 y2
    rw [← hz, ← hy] at HS
    obtain ⟨b, hbb⟩ : ∃ b, b = Pl.fitsT z y := ⟨_, rfl⟩
    rw [← hbb] at HS
    have HC : Hid (∀ W, Calls Try.prog 72 #[.int .i64 z, .string y] W fun e w' => e = .returned (.bool b) ∧ W = w') := by rw [hbb]; exact HCF.out
    have hk0 : (0 : Int) ≤ (k : Int) := by omega
    have hkn : (k : Int) < (n : Int) := by omega
    clear hR1 hR2 hr1 hr2 hE1 hE2 hE1' hE2' hel1 hel2 hg1 hg2 hz hy hbb HCF hp1 hp2 hys hzz
    cases b
    · have HE : Hid (Pl.fitsW ag ws = false) := by show _ = _; rw [HX.out, HI.out, HS.out]; rfl
      go_wp2_with (go_at_call 72; refine (HC.out _).mono ?_; rintro e w' ⟨rfl, rfl⟩)
      go_ret
      rw [HE.out]
      exact ⟨rfl, blw_alloc (Below.refl _ _) _⟩
    · have HN : Hid (Pl.fitsA ag ws = Pl.fitsA (ag.drop (k + 1)) (ws.drop (k + 1))) := by show _ = _; rw [HI.out, HS.out]; rfl
      go_wp2_with (go_at_call 72; refine (HC.out _).mono ?_; rintro e w' ⟨rfl, rfl⟩)
      go_round
      case rel => exact ⟨k + 1, by omega, by go_num, HN⟩
      case measure => simp [intOf]; omega


set_option maxRecDepth 8000 in
set_option maxHeartbeats 4000000 in
theorem placeI (l : List Pl.Ru) (va : Option Addr) (vc : Nat) (key : ByteArray) (w : World) (hl : l.length ≤ 100) (h : Raw w [.row 48 shSheetRule] [rulesD l] [.slice va l.length vc]) :
    Calls Try.prog 45 #[.agg #[.slice va l.length vc], .string key] w fun e w' => e = .returned (.int .i64 (Pl.ixI (Pl.ruIx l key))) ∧ Below w.heap.size w w' := by
  obtain ⟨wa, hwa⟩ : ∃ wa, wa = (w.alloc (.cells #[.slice va l.length vc] 59)).alloc (.cells #[.string key] 9) := ⟨_, rfl⟩
  have HB : Hid (Below w.heap.size w wa) := by show Below _ _ _; rw [hwa]; exact blw_alloc (blw_alloc (Below.refl _ _) _) _
  have x0 : wa.cell? ⟨w.heap.size, 0, none⟩ = some (.slice va l.length vc) := by rw [hwa]; exact ((LBox.new w #[.slice va l.length vc] 59 _ rfl).past _).get 0 _ rfl
  have HK : LBox wa (w.heap.size + 1) [.string key] := by rw [hwa]; exact LBox.new _ #[.string key] _ _ (by simp)
  have HC := uh (ruleIxI l va vc key (w.heap.size + 1) wa hl (h.later HB.out) (HK.get 0 _ rfl) HK.lt)
  have z : w.heap.size < wa.heap.size := by rw [hwa]; simp; omega
  clear h HK
  go_enter Try.func45, Try.ntmps45
  go_upto_region 1 with fail
  rw [← hwa]
  clear hwa
  go_wp2_with (go_at_call 64; refine HC.out.mono ?_; rintro e w' ⟨rfl, hb⟩)
  go_ret
  exact ⟨rfl, blw_trans HB.out hb⟩

/-- What 'rule' answers. -/
def RuAns (l : List Pl.Ru) (key : ByteArray) (W : World) (e : Ending) : Prop := match Pl.ruIx l key with
  | none => e = .returned (.tuple #[.agg #[.string ⟨#[]⟩, .slice none 0 0, .bool false, .slice none 0 0], .bool false])
  | some j => ∃ a1 c1 a3 c3, e = .returned (.tuple #[.agg #[.string (l.getD j Pl.ruNo).key, .slice a1 (l.getD j Pl.ruNo).args.length c1, .bool (l.getD j Pl.ruNo).many, .slice a3 (l.getD j Pl.ruNo).dflt.length c3], .bool true]) ∧
      Raw W [.row 3 [.i]] [.row (l.getD j Pl.ruNo).args.length ((l.getD j Pl.ruNo).args.map .i)] [.slice a1 (l.getD j Pl.ruNo).args.length c1] ∧
      Raw W [.row 9 [.s]] [.row (l.getD j Pl.ruNo).dflt.length (txD (l.getD j Pl.ruNo).dflt)] [.slice a3 (l.getD j Pl.ruNo).dflt.length c3]

set_option maxRecDepth 8000 in
set_option maxHeartbeats 8000000 in
theorem ruleJ (l : List Pl.Ru) (va : Option Addr) (vc : Nat) (key : ByteArray) (w0 w : World) (hw0 : Below w0.heap.size w0 w) (hl : l.length ≤ 100) (h : Raw w0 [.row 48 shSheetRule] [rulesD l] [.slice va l.length vc]) :
    Calls Try.prog 24 #[.agg #[.slice va l.length vc], .string key] w fun e w' => RuAns l key w0 e ∧ Below w.heap.size w w' := by
  obtain ⟨wa, hwa⟩ : ∃ wa, wa = (w.alloc (.cells #[.slice va l.length vc] 59)).alloc (.cells #[.string ⟨#[]⟩, .slice none 0 0, .bool false, .slice none 0 0] 48) := ⟨_, rfl⟩
  have HB : Hid (Below w.heap.size w wa) := by show Below _ _ _; rw [hwa]; exact blw_alloc (blw_alloc (Below.refl _ _) _) _
  have HK : LBox wa w.heap.size [.slice va l.length vc] := by rw [hwa]; exact (LBox.new w #[.slice va l.length vc] 59 _ rfl).past _
  have HRB : Hid (WBox wa (w.heap.size + 1) 48 [.string ⟨#[]⟩, .slice none 0 0, .bool false, .slice none 0 0]) := by show WBox _ _ _ _; rw [hwa]; exact WBox.new (w.alloc (.cells #[.slice va l.length vc] 59)) [.string ⟨#[]⟩, .slice none 0 0, .bool false, .slice none 0 0] 48 _ (by simp)
  have HC := uh (placeI l va vc key wa hl (h.later (blw_trans hw0 HB.out)))
  have HR := uh h
  have HW0 := uh hw0
  have HKK := uh HK
  have x0 := HK.get 0 _ rfl
  have xl := HK.lt
  obtain ⟨b0, hb0⟩ : ∃ b0, b0 = w.heap.size := ⟨_, rfl⟩
  have HBZ := uh hb0
  clear h HK hw0
  go_enter Try.func24, Try.ntmps24
  go_upto_region 1 with fail
  rw [← hwa]
  clear hwa
  rw [← hb0] at HRB HKK x0 xl
  rw [← hb0]
  clear hb0
  go_wp2_with fail
  refine HC.out.mono ?_
  rintro e w1 ⟨rfl, hb⟩
  have x1 := (HKK.out.later hb).get 0 _ rfl
  have xl1 := (HKK.out.later hb).lt
  have HR1 := uh (HRB.out.later hb)
  have HB1 : Hid (Below w.heap.size w w1) := blw_trans HB.out hb
  clear hb HC HRB HKK x0 xl
  cases hix : Pl.ruIx l key with
  | none =>
    have hmi : Pl.ixI none = -1 := rfl
    rw [hmi]
    clear hmi
    have HX : Hid (∀ e, e = .returned (.tuple #[.agg #[.string ⟨#[]⟩, .slice none 0 0, .bool false, .slice none 0 0], .bool false]) → RuAns l key w0 e) := fun e he => by unfold RuAns; rw [hix]; exact he
    have hth1 : w1.there (b0 + 1) 0 (#[.string ⟨#[]⟩, .slice none 0 0, .bool false, .slice none 0 0] : Array Value).size := uthere (HR1.out).own _ _ (by simp)
    obtain ⟨we1, hwe1⟩ : ∃ we1, we1 = w1.setCells (b0 + 1) 0 [.string ⟨#[]⟩, .slice none 0 0, .bool false, .slice none 0 0] := ⟨_, rfl⟩
    have HW1 := uh hwe1
    have hr1 : we1.rangeAt (b0 + 1) 0 [.string ⟨#[]⟩, .slice none 0 0, .bool false, .slice none 0 0] := by rw [hwe1]; exact World.rangeAt_setCells_same _ _ _ _ hth1
    clear hwe1 hix
    go_wp2_with (refine wpList_store_mid rfl 48 _ _ rfl (b0 + 1) 0 #[.string ⟨#[]⟩, .slice none 0 0, .bool false, .slice none 0 0] rfl rfl hth1 (by kernel_rfl) (by simp [Value.oneCell']) ?_; first | rw [← HW1.out] | (simp only [List.toList_toArray]; rw [← HW1.out]))
    try simp only [Act.put, List.setIfInBounds_toArray, List.set_cons_zero, List.set_cons_succ]
    refine bodyPost_ret (v := .tuple #[.agg #[.string ⟨#[]⟩, .slice none 0 0, .bool false, .slice none 0 0], .bool false]) (by simp [results, Try.results24, asAddr, run_loadVar_mid (P := Try.prog) _ _ _ 48 [.string ⟨#[]⟩, .slice none 0 0, .bool false, .slice none 0 0] _ hr1 Try.underlying48 rfl (by kernel_rfl)]) rfl ?_
    rw [HW1.out]
    exact ⟨HX.out _ rfl, blw_scs (by have := HBZ.out; omega) _ _ _ HB1.out⟩
  | some j =>
    have hj := Pl.ruIx_lt hix
    have hmi : Pl.ixI (some j) = (j : Int) := rfl
    rw [hmi]
    clear hmi
    have hj0 : (0 : Int) ≤ (j : Int) := by omega
    have hjn : (j : Int) < (l.length : Int) := by omega
    obtain ⟨p, o, c, a1, c1, v3, hv, hp, hg, hA, hD⟩ := rule_at HR.out hj
    injection hv with e1 _ e3
    subst e1; subst e3
    obtain ⟨a3, c3, e5⟩ := hD.len0
    subst e5
    have HX : Hid (∀ e, e = .returned (.tuple #[.agg #[.string (l.getD j Pl.ruNo).key, .slice a1 (l.getD j Pl.ruNo).args.length c1, .bool (l.getD j Pl.ruNo).many, .slice a3 (l.getD j Pl.ruNo).dflt.length c3], .bool true]) → RuAns l key w0 e) := fun e he => by unfold RuAns; rw [hix]; exact ⟨_, _, _, _, he, hA, hD⟩
    have HG := uh (rA_later hg hp (blw_trans HW0.out HB1.out))
    clear hg hA hD hix
    obtain ⟨r0, h0⟩ : ∃ r0, r0 = (l.getD j Pl.ruNo).key := ⟨_, rfl⟩
    obtain ⟨n1, h1⟩ : ∃ n1, n1 = (l.getD j Pl.ruNo).args.length := ⟨_, rfl⟩
    obtain ⟨m, h2⟩ : ∃ m, m = (l.getD j Pl.ruNo).many := ⟨_, rfl⟩
    obtain ⟨n3, h3⟩ : ∃ n3, n3 = (l.getD j Pl.ruNo).dflt.length := ⟨_, rfl⟩
    rw [← h0, ← h1, ← h2, ← h3] at HX HG
    clear h0 h1 h2 h3
    have hth1 : w1.there (b0 + 1) 0 (#[.string r0, .slice a1 n1 c1, .bool m, .slice a3 n3 c3] : Array Value).size := uthere (HR1.out).own _ _ (by simp)
    obtain ⟨we1, hwe1⟩ : ∃ we1, we1 = w1.setCells (b0 + 1) 0 [.string r0, .slice a1 n1 c1, .bool m, .slice a3 n3 c3] := ⟨_, rfl⟩
    have HW1 := uh hwe1
    have hr1 : we1.rangeAt (b0 + 1) 0 [.string r0, .slice a1 n1 c1, .bool m, .slice a3 n3 c3] := by rw [hwe1]; exact World.rangeAt_setCells_same _ _ _ _ hth1
    clear hwe1
    go_wp2_with (first | (refine wpList_load_mid rfl 48 _ rfl p (o + j * 4) rfl [.string r0, .slice a1 n1 c1, .bool m, .slice a3 n3 c3] _ HG.out Try.underlying48 rfl (by kernel_rfl) ?_) | (refine wpList_store_mid rfl 48 _ _ rfl (b0 + 1) 0 #[.string r0, .slice a1 n1 c1, .bool m, .slice a3 n3 c3] rfl rfl hth1 (by kernel_rfl) (by simp [Value.oneCell']) ?_; first | rw [← HW1.out] | (simp only [List.toList_toArray]; rw [← HW1.out])))
    try simp only [Act.put, List.setIfInBounds_toArray, List.set_cons_zero, List.set_cons_succ]
    refine bodyPost_ret (v := .tuple #[.agg #[.string r0, .slice a1 n1 c1, .bool m, .slice a3 n3 c3], .bool true]) (by simp [results, Try.results24, asAddr, run_loadVar_mid (P := Try.prog) _ _ _ 48 [.string r0, .slice a1 n1 c1, .bool m, .slice a3 n3 c3] _ hr1 Try.underlying48 rfl (by kernel_rfl)]) rfl ?_
    rw [HW1.out]
    exact ⟨HX.out _ rfl, blw_scs (by have := HBZ.out; omega) _ _ _ HB1.out⟩

theorem ruleI (l : List Pl.Ru) (va : Option Addr) (vc : Nat) (key : ByteArray) (w : World) (hl : l.length ≤ 100) (h : Raw w [.row 48 shSheetRule] [rulesD l] [.slice va l.length vc]) :
    Calls Try.prog 24 #[.agg #[.slice va l.length vc], .string key] w fun e w' => RuAns l key w e ∧ Below w.heap.size w w' := ruleJ l va vc key w w (Below.refl _ _) hl h

theorem tx_small : ∀ (ws : List ByteArray) (n : Nat), wtL (txD ws) ≤ n → ∀ x ∈ ws, x.size ≤ n
  | [], _, _, x, h => by cases h
  | y :: ws, n, h, x, hx => by
    have h' : y.size + wtL (txD ws) ≤ n := by
      have e : wtL (txD (y :: ws)) = y.size + wtL (txD ws) := by rw [txD, List.map_cons, wtL]; rfl
      omega
    rcases List.mem_cons.1 hx with rfl | q
    · omega
    · exact tx_small ws n (by omega) x q
end Go.Proofs.Ytikacjpbnoihjaa
