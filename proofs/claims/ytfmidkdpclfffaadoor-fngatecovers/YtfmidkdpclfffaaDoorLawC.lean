/-
  The law of covering.
-/
import Derived.Test.YtfmidkdpclfffaaDoorLawCB
import Derived.Test.YtfmidkdpclfffaaDoorWalkSD
namespace Go.Proofs.YtfmidkdpclfffaaDoor
open Go.RowKit Go.Deep

theorem CodeAt.slice {W : World} {v : Value} (h : CodeAt W v) : ∃ a n c, v = .slice a n c := by
  rcases h with ⟨a, c, rfl⟩ | ⟨b, off, n, cap, rfl, _⟩
  · exact ⟨_, _, _, rfl⟩
  · exact ⟨_, _, _, rfl⟩

set_option maxRecDepth 8000 in
set_option maxHeartbeats 16000000 in
theorem lawCovers (cv mv : Value) (w : World) (hc : CodeAt w cv) (hm : CodeAt w mv) (htab : Tab w) :
    Calls Tryd.prog 3 #[cv, mv] w fun e w' => e = .returned (.bool true) ∧ Below w.heap.size w w' := by
  obtain ⟨a1, n1, k1, rfl⟩ := hc.slice
  obtain ⟨a2, n2, k2, rfl⟩ := hm.slice
  have HC : Hid (CodeAt w (.slice a1 n1 k1) ∧ CodeAt w (.slice a2 n2 k2) ∧ Tab w) := ⟨hc, hm, htab⟩
  clear hc hm htab
  by_cases g1 : (1048576 : Int) < (n1 : Int)
  · go_enter Tryd.func3, Tryd.ntmps3
    go_wp2
    go_ret
    exact ⟨rfl, Below.refl _ _⟩
  by_cases g2 : (1048576 : Int) < (n2 : Int)
  · go_enter Tryd.func3, Tryd.ntmps3
    go_wp2
    go_ret
    exact ⟨rfl, Below.refl _ _⟩
  go_enter Tryd.func3, Tryd.ntmps3
  go_wp2_with fail
  refine (drawCovers _ w HC.out.1).mono ?_
  rintro e W1 ⟨⟨bt, ct, g, cap, b, c, ts, rs, r, rfl, hT, hR, hI, hs, hl⟩, hb⟩
  obtain ⟨W2, hW2⟩ : ∃ W2, W2 = W1.alloc (.cells #[.slice (some ⟨b, 0, none⟩) r.verbs.length c, .string r.kind, .string r.team, .string r.pre] 27) := ⟨_, rfl⟩
  obtain ⟨Q, hQ⟩ : ∃ Q, Q = W1.heap.size := ⟨_, rfl⟩
  have hb2 : Below W1.heap.size W1 W2 := by rw [hW2]; exact blw_alloc (Below.refl _ _) _
  have HB2 : Hid (Below w.heap.size w W2) := blw_trans hb hb2
  have HM : Hid (∀ X, Below W2.heap.size W2 X → TmsIn X bt ts ∧ RulsIn X g rs ∧ IntsIn X b r.verbs ∧ Boxed X Q #[.slice (some ⟨b, 0, none⟩) r.verbs.length c, .string r.kind, .string r.team, .string r.pre] ∧ Tab X ∧ CodeAt X (.slice a2 n2 k2)) := fun X hX => by
    have h3 := blw_trans hb2 hX
    have h4 := blw_trans (blw_trans hb hb2) hX
    exact ⟨hT.later h3, hR.later h3, hI.later h3, by rw [hW2] at hX; rw [hQ]; exact (Boxed.new W1 _ 27).later hX, HC.out.2.2.later h4, HC.out.2.1.later h4⟩
  have HS : Hid (r.sized ∧ rs.length ≤ 100) := ⟨hs, hl⟩
  go_upto_region 4 with fail
  rw [← hW2, ← hQ]
  clear hW2 hQ hb hb2 hT hR hI hs hl HC
  have hx := (HM.out W2 (Below.refl _ _)).2.2.2.1
  have hqz := hx.1
  have p0 : W2.cell? ⟨Q, 0, none⟩ = some (.slice (some ⟨b, 0, none⟩) r.verbs.length c) := hx.2 0
  have p1 : W2.cell? ⟨Q, 1, none⟩ = some (.string r.kind) := hx.2 1
  have p2 : W2.cell? ⟨Q, 2, none⟩ = some (.string r.team) := hx.2 2
  have p3 : W2.cell? ⟨Q, 3, none⟩ = some (.string r.pre) := hx.2 3
  clear hx
  go_wp2_with fail
  refine (coversI bt g b ts rs r W2 (HM.out _ (Below.refl _ _)).1 (HM.out _ (Below.refl _ _)).2.1 (HM.out _ (Below.refl _ _)).2.2.1 HS.out.1).mono ?_
  rintro e W3 ⟨rfl, hb⟩
  have HB3 : Hid (Below W2.heap.size W2 W3) := hb
  clear hb hqz p0 p1 p2 p3
  obtain ⟨CO, hCO⟩ : ∃ CO, CO = covers ts rs r := ⟨_, rfl⟩
  have HCO : Hid (CO = covers ts rs r) := hCO
  rw [← hCO]
  clear hCO
  have hx := (HM.out W3 HB3.out).2.2.2.1
  have hqz := hx.1
  have p0 : W3.cell? ⟨Q, 0, none⟩ = some (.slice (some ⟨b, 0, none⟩) r.verbs.length c) := hx.2 0
  have p1 : W3.cell? ⟨Q, 1, none⟩ = some (.string r.kind) := hx.2 1
  have p2 : W3.cell? ⟨Q, 2, none⟩ = some (.string r.team) := hx.2 2
  have p3 : W3.cell? ⟨Q, 3, none⟩ = some (.string r.pre) := hx.2 3
  clear hx
  go_wp2_with fail
  refine (uncI bt g b ts rs r W3 (HM.out _ HB3.out).1 (HM.out _ HB3.out).2.1 (HM.out _ HB3.out).2.2.1 HS.out.1 (HM.out _ HB3.out).2.2.2.2.1).mono ?_
  rintro e W4 ⟨rfl, hb⟩
  obtain ⟨aV, hV⟩ : ∃ aV, aV = uncV ts rs r := ⟨_, rfl⟩
  obtain ⟨aK, hK⟩ : ∃ aK, aK = uncK ts rs r := ⟨_, rfl⟩
  obtain ⟨aT, hT⟩ : ∃ aT, aT = uncT ts rs r := ⟨_, rfl⟩
  obtain ⟨aP, hP⟩ : ∃ aP, aP = uncP ts rs r := ⟨_, rfl⟩
  obtain ⟨OK, hOK⟩ : ∃ OK, OK = uncOk ts rs r := ⟨_, rfl⟩
  have HU : Hid (OK = (allOk ts rs r && !CO) ∧ (OK = true → allows ts r ⟨aV, aK, aT, aP⟩ = true ∧ rs.any (fun q => allows ts q ⟨aV, aK, aT, aP⟩) = false)) := by
    refine ⟨by rw [hOK, HCO.out]; exact unc_cov ts rs r, fun h => ?_⟩
    rw [hV, hK, hT, hP]
    exact unc_allows (by rw [← hOK]; exact h)
  rw [← hV, ← hK, ← hT, ← hP, ← hOK]
  clear hV hK hT hP hOK
  obtain ⟨W5, hW5⟩ : ∃ W5, W5 = W4.alloc (.cells #[.int .i64 aV, .string aK, .string aT, .string aP] 32) := ⟨_, rfl⟩
  obtain ⟨D, hD⟩ : ∃ D, D = W4.heap.size := ⟨_, rfl⟩
  have hb5 : Below W4.heap.size W4 W5 := by rw [hW5]; exact blw_alloc (Below.refl _ _) _
  have HB5 : Hid (Below W2.heap.size W2 W5) := blw_trans (blw_trans HB3.out hb) hb5
  have HD : Hid (Boxed W5 D #[.int .i64 aV, .string aK, .string aT, .string aP]) := by show Boxed _ _ _; rw [hW5, hD]; exact Boxed.new W4 _ 32
  go_upto_region 6 with fail
  rw [← hW5, ← hD]
  clear hW5 hD hb hb5 hqz p0 p1 p2 p3 HB3
  have hx := (HM.out W5 HB5.out).2.2.2.1
  have hqz := hx.1
  have p0 : W5.cell? ⟨Q, 0, none⟩ = some (.slice (some ⟨b, 0, none⟩) r.verbs.length c) := hx.2 0
  have p1 : W5.cell? ⟨Q, 1, none⟩ = some (.string r.kind) := hx.2 1
  have p2 : W5.cell? ⟨Q, 2, none⟩ = some (.string r.team) := hx.2 2
  have p3 : W5.cell? ⟨Q, 3, none⟩ = some (.string r.pre) := hx.2 3
  clear hx
  go_wp2_with fail
  refine (coversS bt g b ts rs r W5 (HM.out _ HB5.out).1 (HM.out _ HB5.out).2.1 (HM.out _ HB5.out).2.2.1 HS.out.1).mono ?_
  rintro e W6 ⟨rfl, hb⟩
  rw [← HCO.out]
  have HB6 : Hid (Below W2.heap.size W2 W6) := blw_trans HB5.out hb
  have HD6 : Hid (Boxed W6 D #[.int .i64 aV, .string aK, .string aT, .string aP]) := HD.out.later hb
  have hneq : (CO != CO) = false := by cases CO <;> rfl
  clear hb hqz p0 p1 p2 p3 HB5 HD
  go_upto_region 8 with fail
  
  cases OK
  · skip
    go_upto_region 10 with fail
    refine region10 bt ct g cap b c Q ts rs r _ W6 _ rfl rfl rfl rfl (HM.out _ HB6.out).1 (HM.out _ HB6.out).2.1 (HM.out _ HB6.out).2.2.1 HS.out.1 HS.out.2 (HM.out _ HB6.out).2.2.2.1 ?_
    intro W8 vs hb el
    have HB8 : Hid (Below W2.heap.size W2 W8) := blw_trans HB6.out hb
    obtain ⟨AL, hAL⟩ : ∃ AL, AL = allOk ts rs r := ⟨_, rfl⟩
    rw [← hAL] at el
    have HU : Hid (false = (AL && !CO)) := by show _ = _; rw [hAL]; exact HU.out.1
    simp only [RY.putAll, ops10, Act.put, List.setIfInBounds_toArray, List.set_cons_zero, List.set_cons_succ]
    rw [el]
    generalize vs 67 = s67
    generalize vs 68 = s68
    generalize vs 69 = s69
    generalize vs 70 = s70
    generalize vs 71 = s71
    generalize vs 72 = s72
    generalize vs 73 = s73
    generalize vs 74 = s74
    generalize vs 75 = s75
    clear hb el hAL
    cases AL
    · cases CO
      · skip
        go_upto_region 13 with fail
        go_wp2_with fail
        refine (drawAllows _ W8 (HM.out _ HB8.out).2.2.2.2.2).mono ?_
        rintro e W9 ⟨⟨b1, n1', c1, b2, n2', c2, q1, q2, q3, d, rfl, hd⟩, hb⟩
        obtain ⟨Wx, hWx⟩ : ∃ Wx, Wx = (W9.alloc (.cells #[.slice (some ⟨b2, 0, none⟩) n2' c2, .string q1, .string q2, .string q3] 27)).alloc (.cells #[.int .i64 d.verb, .string d.kind, .string d.team, .string d.name] 32) := ⟨_, rfl⟩
        obtain ⟨E, hE⟩ : ∃ E, E = W9.heap.size + 1 := ⟨_, rfl⟩
        have hbx : Below W9.heap.size W9 Wx := by rw [hWx]; exact blw_alloc (blw_alloc (Below.refl _ _) _) _
        have HBx : Hid (Below W2.heap.size W2 Wx) := blw_trans (blw_trans HB8.out hb) hbx
        have HE : Hid (Boxed Wx E #[.int .i64 d.verb, .string d.kind, .string d.team, .string d.name]) := by
          show Boxed _ _ _
          rw [hWx, hE]
          have := Boxed.new (W9.alloc (.cells #[.slice (some ⟨b2, 0, none⟩) n2' c2, .string q1, .string q2, .string q3] 27)) #[.int .i64 d.verb, .string d.kind, .string d.team, .string d.name] 32
          simpa using this
        go_upto_region 14 with fail
        rw [← hWx, ← hE]
        clear hWx hE hb hbx HB8
        go_upto_region 16 with fail
        go_wp2_with fail
        refine (drawCovers _ Wx (HM.out _ HBx.out).2.2.2.2.2).mono ?_
        rintro e Wm ⟨⟨bo, co, go, ko, bb, cb, tq, os, ro, rfl, _, hO, _, _, hol⟩, hb⟩
        obtain ⟨Wn, hWn⟩ : ∃ Wn, Wn = Wm.alloc (.cells #[.slice (some ⟨bb, 0, none⟩) ro.verbs.length cb, .string ro.kind, .string ro.team, .string ro.pre] 27) := ⟨_, rfl⟩
        have hbn : Below Wm.heap.size Wm Wn := by rw [hWn]; exact blw_alloc (Below.refl _ _) _
        have HBn : Hid (Below W2.heap.size W2 Wn) := blw_trans (blw_trans HBx.out hb) hbn
        have HN : Hid (∀ X, Below Wn.heap.size Wn X → TmsIn X bt ts ∧ RulsIn X g rs ∧ RulsIn X go os ∧ IntsIn X b r.verbs ∧ Boxed X Q #[.slice (some ⟨b, 0, none⟩) r.verbs.length c, .string r.kind, .string r.team, .string r.pre]) := fun X hX => by
          have h := HM.out X (blw_trans HBn.out hX)
          exact ⟨h.1, h.2.1, (hO.later hbn).later hX, h.2.2.1, h.2.2.2.1⟩
        have hrl : rs.length ≤ 100 := HS.out.2
        go_upto_region 17 with fail
        rw [← hWn]
        clear hWn hb hbn hO
        go_wp2
        go_loopw [18] (fun i wr => ∃ k : Nat, k ≤ rs.length ∧ i = .int .i64 (k : Nat) ∧ (∀ q ∈ rs.take k, covers ts os q = true) ∧ Below Wn.heap.size Wn wr) (fun i _ => rs.length - (intOf i).toNat)
        case atStart => exact ⟨0, Nat.zero_le _, rfl, fun q hq => by simp at hq, Below.refl _ _⟩
        case round =>
          obtain ⟨k, hk, rfl, hq, hW⟩ := hrel
          have HQ : Hid (∀ q ∈ rs.take k, covers ts os q = true) := hq
          have HW : Hid (Below Wn.heap.size Wn wr) := hW
          clear hq hW
          by_cases hlt : k < rs.length
          · obtain ⟨q, hqq⟩ : ∃ q, q = rs.getD k Rul.none := ⟨_, rfl⟩
            have hf := (HN.out wr HW.out).2.1.at_ k hlt
            have hgw : g < wr.heap.size := (HN.out wr HW.out).2.1.lt
            rw [← hqq] at hf
            obtain ⟨bq, cq, c0, c1, c2, c3, hi, hs⟩ := hf
            have HX : Hid (Calls Tryd.prog 5 #[.slice (some ⟨bt, 0, none⟩) ts.length ct, .slice (some ⟨go, 0, none⟩) os.length ko, .agg #[.slice (some ⟨bq, 0, none⟩) q.verbs.length cq, .string q.kind, .string q.team, .string q.pre]] wr fun e w' => e = .returned (.bool (covers ts os q)) ∧ Below wr.heap.size wr w') := coversI bt go bq ts os q wr (HN.out wr HW.out).1 (HN.out wr HW.out).2.2.1 hi hs
            have HG : Hid (q = rs.getD k Rul.none) := hqq
            clear hqq hi hs
            go_wp2_with fail
            refine HX.out.mono ?_
            rintro e w5 ⟨rfl, hb5⟩
            have HK : Hid (Below Wn.heap.size Wn w5) := blw_trans HW.out hb5
            clear hb5 c0 c1 c2 c3 hgw HX
            cases hn : covers ts os q
            · go_wp2
              go_ret
              exact ⟨rfl, blw_trans HB2.out (blw_trans HBn.out HK.out)⟩
            · have HE : Hid (∀ q ∈ rs.take (k + 1), covers ts os q = true) := by
                intro x hx
                rw [List.take_add_one] at hx
                rcases List.mem_append.1 hx with hx | hx
                · exact HQ.out x hx
                · have e : x = q := by
                    rw [HG.out]
                    simp [hlt] at hx ⊢
                    exact hx
                  rw [e]; exact hn
              go_wp2
              go_roundw
              case rel => exact ⟨k + 1, by omega, by go_num, HE.out, HK.out⟩
              case measure => simp [intOf]; omega
          · skip
            go_wp2
            go_ret
            exact ⟨rfl, blw_trans HB2.out (blw_trans HBn.out HW.out)⟩
      · skip
        go_upto_region 13 with fail
        go_wp2_with fail
        refine (drawAllows _ W8 (HM.out _ HB8.out).2.2.2.2.2).mono ?_
        rintro e W9 ⟨⟨b1, n1', c1, b2, n2', c2, q1, q2, q3, d, rfl, hd⟩, hb⟩
        obtain ⟨Wx, hWx⟩ : ∃ Wx, Wx = (W9.alloc (.cells #[.slice (some ⟨b2, 0, none⟩) n2' c2, .string q1, .string q2, .string q3] 27)).alloc (.cells #[.int .i64 d.verb, .string d.kind, .string d.team, .string d.name] 32) := ⟨_, rfl⟩
        obtain ⟨E, hE⟩ : ∃ E, E = W9.heap.size + 1 := ⟨_, rfl⟩
        have hbx : Below W9.heap.size W9 Wx := by rw [hWx]; exact blw_alloc (blw_alloc (Below.refl _ _) _) _
        have HBx : Hid (Below W2.heap.size W2 Wx) := blw_trans (blw_trans HB8.out hb) hbx
        have HE : Hid (Boxed Wx E #[.int .i64 d.verb, .string d.kind, .string d.team, .string d.name]) := by
          show Boxed _ _ _
          rw [hWx, hE]
          have := Boxed.new (W9.alloc (.cells #[.slice (some ⟨b2, 0, none⟩) n2' c2, .string q1, .string q2, .string q3] 27)) #[.int .i64 d.verb, .string d.kind, .string d.team, .string d.name] 32
          simpa using this
        go_upto_region 14 with fail
        rw [← hWx, ← hE]
        clear hWx hE hb hbx HB8
        have hx := (HM.out Wx HBx.out).2.2.2.1
        have hqz := hx.1
        have p0 : Wx.cell? ⟨Q, 0, none⟩ = some (.slice (some ⟨b, 0, none⟩) r.verbs.length c) := hx.2 0
        have p1 : Wx.cell? ⟨Q, 1, none⟩ = some (.string r.kind) := hx.2 1
        have p2 : Wx.cell? ⟨Q, 2, none⟩ = some (.string r.team) := hx.2 2
        have p3 : Wx.cell? ⟨Q, 3, none⟩ = some (.string r.pre) := hx.2 3
        clear hx
        have hy := HE.out
        have ez := hy.1
        have e0 : Wx.cell? ⟨E, 0, none⟩ = some (.int .i64 d.verb) := hy.2 0
        have e1 : Wx.cell? ⟨E, 1, none⟩ = some (.string d.kind) := hy.2 1
        have e2 : Wx.cell? ⟨E, 2, none⟩ = some (.string d.team) := hy.2 2
        have e3 : Wx.cell? ⟨E, 3, none⟩ = some (.string d.name) := hy.2 3
        clear hy
        go_wp2_with fail
        refine (allowsI bt b ts r d Wx (HM.out _ HBx.out).1 (HM.out _ HBx.out).2.2.1 HS.out.1).mono ?_
        rintro e Wy ⟨rfl, hb⟩
        have HBy : Hid (Below W2.heap.size W2 Wy) := blw_trans HBx.out hb
        have HEy : Hid (Boxed Wy E #[.int .i64 d.verb, .string d.kind, .string d.team, .string d.name]) := HE.out.later hb
        clear hb hqz p0 p1 p2 p3 ez e0 e1 e2 e3 HE HBx
        cases ha : allows ts r d
        · clear ha
          go_upto_region 16 with fail
          go_wp2_with fail
          refine (drawCovers _ Wy (HM.out _ HBy.out).2.2.2.2.2).mono ?_
          rintro e Wm ⟨⟨bo, co, go, ko, bb, cb, tq, os, ro, rfl, _, hO, _, _, hol⟩, hb⟩
          obtain ⟨Wn, hWn⟩ : ∃ Wn, Wn = Wm.alloc (.cells #[.slice (some ⟨bb, 0, none⟩) ro.verbs.length cb, .string ro.kind, .string ro.team, .string ro.pre] 27) := ⟨_, rfl⟩
          have hbn : Below Wm.heap.size Wm Wn := by rw [hWn]; exact blw_alloc (Below.refl _ _) _
          have HBn : Hid (Below W2.heap.size W2 Wn) := blw_trans (blw_trans HBy.out hb) hbn
          have HN : Hid (∀ X, Below Wn.heap.size Wn X → TmsIn X bt ts ∧ RulsIn X g rs ∧ RulsIn X go os ∧ IntsIn X b r.verbs ∧ Boxed X Q #[.slice (some ⟨b, 0, none⟩) r.verbs.length c, .string r.kind, .string r.team, .string r.pre]) := fun X hX => by
            have h := HM.out X (blw_trans HBn.out hX)
            exact ⟨h.1, h.2.1, (hO.later hbn).later hX, h.2.2.1, h.2.2.2.1⟩
          have hrl : rs.length ≤ 100 := HS.out.2
          go_upto_region 17 with fail
          rw [← hWn]
          clear hWn hb hbn hO
          go_wp2
          go_loopw [18] (fun i wr => ∃ k : Nat, k ≤ rs.length ∧ i = .int .i64 (k : Nat) ∧ (∀ q ∈ rs.take k, covers ts os q = true) ∧ Below Wn.heap.size Wn wr) (fun i _ => rs.length - (intOf i).toNat)
          case atStart => exact ⟨0, Nat.zero_le _, rfl, fun q hq => by simp at hq, Below.refl _ _⟩
          case round =>
            obtain ⟨k, hk, rfl, hq, hW⟩ := hrel
            have HQ : Hid (∀ q ∈ rs.take k, covers ts os q = true) := hq
            have HW : Hid (Below Wn.heap.size Wn wr) := hW
            clear hq hW
            by_cases hlt : k < rs.length
            · obtain ⟨q, hqq⟩ : ∃ q, q = rs.getD k Rul.none := ⟨_, rfl⟩
              have hf := (HN.out wr HW.out).2.1.at_ k hlt
              have hgw : g < wr.heap.size := (HN.out wr HW.out).2.1.lt
              rw [← hqq] at hf
              obtain ⟨bq, cq, c0, c1, c2, c3, hi, hs⟩ := hf
              have HX : Hid (Calls Tryd.prog 5 #[.slice (some ⟨bt, 0, none⟩) ts.length ct, .slice (some ⟨go, 0, none⟩) os.length ko, .agg #[.slice (some ⟨bq, 0, none⟩) q.verbs.length cq, .string q.kind, .string q.team, .string q.pre]] wr fun e w' => e = .returned (.bool (covers ts os q)) ∧ Below wr.heap.size wr w') := coversI bt go bq ts os q wr (HN.out wr HW.out).1 (HN.out wr HW.out).2.2.1 hi hs
              have HG : Hid (q = rs.getD k Rul.none) := hqq
              clear hqq hi hs
              go_wp2_with fail
              refine HX.out.mono ?_
              rintro e w5 ⟨rfl, hb5⟩
              have HK : Hid (Below Wn.heap.size Wn w5) := blw_trans HW.out hb5
              clear hb5 c0 c1 c2 c3 hgw HX
              cases hn : covers ts os q
              · go_wp2
                go_ret
                exact ⟨rfl, blw_trans HB2.out (blw_trans HBn.out HK.out)⟩
              · have HE : Hid (∀ q ∈ rs.take (k + 1), covers ts os q = true) := by
                  intro x hx
                  rw [List.take_add_one] at hx
                  rcases List.mem_append.1 hx with hx | hx
                  · exact HQ.out x hx
                  · have e : x = q := by
                      rw [HG.out]
                      simp [hlt] at hx ⊢
                      exact hx
                    rw [e]; exact hn
                go_wp2
                go_roundw
                case rel => exact ⟨k + 1, by omega, by go_num, HE.out, HK.out⟩
                case measure => simp [intOf]; omega
            · skip
              have hx := (HN.out wr HW.out).2.2.2.2
              have hqz := hx.1
              have p0 : wr.cell? ⟨Q, 0, none⟩ = some (.slice (some ⟨b, 0, none⟩) r.verbs.length c) := hx.2 0
              have p1 : wr.cell? ⟨Q, 1, none⟩ = some (.string r.kind) := hx.2 1
              have p2 : wr.cell? ⟨Q, 2, none⟩ = some (.string r.team) := hx.2 2
              have p3 : wr.cell? ⟨Q, 3, none⟩ = some (.string r.pre) := hx.2 3
              clear hx
              have HCV : Hid (covers ts os r = true) := cov_on HCO.out.symm fun q hq => HQ.out q (by rw [List.take_of_length_le (by omega)]; exact hq)
              go_wp2_with fail
              refine (coversI bt go b ts os r wr (HN.out _ HW.out).1 (HN.out _ HW.out).2.2.1 (HN.out _ HW.out).2.2.2.1 HS.out.1).mono ?_
              rintro e Wl ⟨rfl, hb⟩
              have HL : Hid (Below wr.heap.size wr Wl) := hb
              rw [HCV.out]
              clear hb hqz p0 p1 p2 p3
              go_wp2
              go_ret
              exact ⟨rfl, blw_trans HB2.out (blw_trans HBn.out (blw_trans HW.out HL.out))⟩
        · have HSM : Hid ((rs.any fun q => allows ts q d) = true) := cov_sound HCO.out.symm ha
          clear ha
          have hy := HEy.out
          have ez := hy.1
          have e0 : Wy.cell? ⟨E, 0, none⟩ = some (.int .i64 d.verb) := hy.2 0
          have e1 : Wy.cell? ⟨E, 1, none⟩ = some (.string d.kind) := hy.2 1
          have e2 : Wy.cell? ⟨E, 2, none⟩ = some (.string d.team) := hy.2 2
          have e3 : Wy.cell? ⟨E, 3, none⟩ = some (.string d.name) := hy.2 3
          clear hy
          go_wp2_with fail
          refine (someI bt g ts rs d Wy (HM.out _ HBy.out).1 (HM.out _ HBy.out).2.1).mono ?_
          rintro e Wz ⟨rfl, hb⟩
          rw [HSM.out]
          have HBz : Hid (Below W2.heap.size W2 Wz) := blw_trans HBy.out hb
          clear hb ez e0 e1 e2 e3 HEy HBy
          go_upto_region 16 with fail
          go_wp2_with fail
          refine (drawCovers _ Wz (HM.out _ HBz.out).2.2.2.2.2).mono ?_
          rintro e Wm ⟨⟨bo, co, go, ko, bb, cb, tq, os, ro, rfl, _, hO, _, _, hol⟩, hb⟩
          obtain ⟨Wn, hWn⟩ : ∃ Wn, Wn = Wm.alloc (.cells #[.slice (some ⟨bb, 0, none⟩) ro.verbs.length cb, .string ro.kind, .string ro.team, .string ro.pre] 27) := ⟨_, rfl⟩
          have hbn : Below Wm.heap.size Wm Wn := by rw [hWn]; exact blw_alloc (Below.refl _ _) _
          have HBn : Hid (Below W2.heap.size W2 Wn) := blw_trans (blw_trans HBz.out hb) hbn
          have HN : Hid (∀ X, Below Wn.heap.size Wn X → TmsIn X bt ts ∧ RulsIn X g rs ∧ RulsIn X go os ∧ IntsIn X b r.verbs ∧ Boxed X Q #[.slice (some ⟨b, 0, none⟩) r.verbs.length c, .string r.kind, .string r.team, .string r.pre]) := fun X hX => by
            have h := HM.out X (blw_trans HBn.out hX)
            exact ⟨h.1, h.2.1, (hO.later hbn).later hX, h.2.2.1, h.2.2.2.1⟩
          have hrl : rs.length ≤ 100 := HS.out.2
          go_upto_region 17 with fail
          rw [← hWn]
          clear hWn hb hbn hO
          go_wp2
          go_loopw [18] (fun i wr => ∃ k : Nat, k ≤ rs.length ∧ i = .int .i64 (k : Nat) ∧ (∀ q ∈ rs.take k, covers ts os q = true) ∧ Below Wn.heap.size Wn wr) (fun i _ => rs.length - (intOf i).toNat)
          case atStart => exact ⟨0, Nat.zero_le _, rfl, fun q hq => by simp at hq, Below.refl _ _⟩
          case round =>
            obtain ⟨k, hk, rfl, hq, hW⟩ := hrel
            have HQ : Hid (∀ q ∈ rs.take k, covers ts os q = true) := hq
            have HW : Hid (Below Wn.heap.size Wn wr) := hW
            clear hq hW
            by_cases hlt : k < rs.length
            · obtain ⟨q, hqq⟩ : ∃ q, q = rs.getD k Rul.none := ⟨_, rfl⟩
              have hf := (HN.out wr HW.out).2.1.at_ k hlt
              have hgw : g < wr.heap.size := (HN.out wr HW.out).2.1.lt
              rw [← hqq] at hf
              obtain ⟨bq, cq, c0, c1, c2, c3, hi, hs⟩ := hf
              have HX : Hid (Calls Tryd.prog 5 #[.slice (some ⟨bt, 0, none⟩) ts.length ct, .slice (some ⟨go, 0, none⟩) os.length ko, .agg #[.slice (some ⟨bq, 0, none⟩) q.verbs.length cq, .string q.kind, .string q.team, .string q.pre]] wr fun e w' => e = .returned (.bool (covers ts os q)) ∧ Below wr.heap.size wr w') := coversI bt go bq ts os q wr (HN.out wr HW.out).1 (HN.out wr HW.out).2.2.1 hi hs
              have HG : Hid (q = rs.getD k Rul.none) := hqq
              clear hqq hi hs
              go_wp2_with fail
              refine HX.out.mono ?_
              rintro e w5 ⟨rfl, hb5⟩
              have HK : Hid (Below Wn.heap.size Wn w5) := blw_trans HW.out hb5
              clear hb5 c0 c1 c2 c3 hgw HX
              cases hn : covers ts os q
              · go_wp2
                go_ret
                exact ⟨rfl, blw_trans HB2.out (blw_trans HBn.out HK.out)⟩
              · have HE : Hid (∀ q ∈ rs.take (k + 1), covers ts os q = true) := by
                  intro x hx
                  rw [List.take_add_one] at hx
                  rcases List.mem_append.1 hx with hx | hx
                  · exact HQ.out x hx
                  · have e : x = q := by
                      rw [HG.out]
                      simp [hlt] at hx ⊢
                      exact hx
                    rw [e]; exact hn
                go_wp2
                go_roundw
                case rel => exact ⟨k + 1, by omega, by go_num, HE.out, HK.out⟩
                case measure => simp [intOf]; omega
            · skip
              have hx := (HN.out wr HW.out).2.2.2.2
              have hqz := hx.1
              have p0 : wr.cell? ⟨Q, 0, none⟩ = some (.slice (some ⟨b, 0, none⟩) r.verbs.length c) := hx.2 0
              have p1 : wr.cell? ⟨Q, 1, none⟩ = some (.string r.kind) := hx.2 1
              have p2 : wr.cell? ⟨Q, 2, none⟩ = some (.string r.team) := hx.2 2
              have p3 : wr.cell? ⟨Q, 3, none⟩ = some (.string r.pre) := hx.2 3
              clear hx
              have HCV : Hid (covers ts os r = true) := cov_on HCO.out.symm fun q hq => HQ.out q (by rw [List.take_of_length_le (by omega)]; exact hq)
              go_wp2_with fail
              refine (coversI bt go b ts os r wr (HN.out _ HW.out).1 (HN.out _ HW.out).2.2.1 (HN.out _ HW.out).2.2.2.1 HS.out.1).mono ?_
              rintro e Wl ⟨rfl, hb⟩
              have HL : Hid (Below wr.heap.size wr Wl) := hb
              rw [HCV.out]
              clear hb hqz p0 p1 p2 p3
              go_wp2
              go_ret
              exact ⟨rfl, blw_trans HB2.out (blw_trans HBn.out (blw_trans HW.out HL.out))⟩
    · cases CO
      · exact absurd HU.out (by decide)
      · skip
        go_upto_region 13 with fail
        go_wp2_with fail
        refine (drawAllows _ W8 (HM.out _ HB8.out).2.2.2.2.2).mono ?_
        rintro e W9 ⟨⟨b1, n1', c1, b2, n2', c2, q1, q2, q3, d, rfl, hd⟩, hb⟩
        obtain ⟨Wx, hWx⟩ : ∃ Wx, Wx = (W9.alloc (.cells #[.slice (some ⟨b2, 0, none⟩) n2' c2, .string q1, .string q2, .string q3] 27)).alloc (.cells #[.int .i64 d.verb, .string d.kind, .string d.team, .string d.name] 32) := ⟨_, rfl⟩
        obtain ⟨E, hE⟩ : ∃ E, E = W9.heap.size + 1 := ⟨_, rfl⟩
        have hbx : Below W9.heap.size W9 Wx := by rw [hWx]; exact blw_alloc (blw_alloc (Below.refl _ _) _) _
        have HBx : Hid (Below W2.heap.size W2 Wx) := blw_trans (blw_trans HB8.out hb) hbx
        have HE : Hid (Boxed Wx E #[.int .i64 d.verb, .string d.kind, .string d.team, .string d.name]) := by
          show Boxed _ _ _
          rw [hWx, hE]
          have := Boxed.new (W9.alloc (.cells #[.slice (some ⟨b2, 0, none⟩) n2' c2, .string q1, .string q2, .string q3] 27)) #[.int .i64 d.verb, .string d.kind, .string d.team, .string d.name] 32
          simpa using this
        go_upto_region 14 with fail
        rw [← hWx, ← hE]
        clear hWx hE hb hbx HB8
        have hx := (HM.out Wx HBx.out).2.2.2.1
        have hqz := hx.1
        have p0 : Wx.cell? ⟨Q, 0, none⟩ = some (.slice (some ⟨b, 0, none⟩) r.verbs.length c) := hx.2 0
        have p1 : Wx.cell? ⟨Q, 1, none⟩ = some (.string r.kind) := hx.2 1
        have p2 : Wx.cell? ⟨Q, 2, none⟩ = some (.string r.team) := hx.2 2
        have p3 : Wx.cell? ⟨Q, 3, none⟩ = some (.string r.pre) := hx.2 3
        clear hx
        have hy := HE.out
        have ez := hy.1
        have e0 : Wx.cell? ⟨E, 0, none⟩ = some (.int .i64 d.verb) := hy.2 0
        have e1 : Wx.cell? ⟨E, 1, none⟩ = some (.string d.kind) := hy.2 1
        have e2 : Wx.cell? ⟨E, 2, none⟩ = some (.string d.team) := hy.2 2
        have e3 : Wx.cell? ⟨E, 3, none⟩ = some (.string d.name) := hy.2 3
        clear hy
        go_wp2_with fail
        refine (allowsI bt b ts r d Wx (HM.out _ HBx.out).1 (HM.out _ HBx.out).2.2.1 HS.out.1).mono ?_
        rintro e Wy ⟨rfl, hb⟩
        have HBy : Hid (Below W2.heap.size W2 Wy) := blw_trans HBx.out hb
        have HEy : Hid (Boxed Wy E #[.int .i64 d.verb, .string d.kind, .string d.team, .string d.name]) := HE.out.later hb
        clear hb hqz p0 p1 p2 p3 ez e0 e1 e2 e3 HE HBx
        cases ha : allows ts r d
        · clear ha
          go_upto_region 16 with fail
          go_wp2_with fail
          refine (drawCovers _ Wy (HM.out _ HBy.out).2.2.2.2.2).mono ?_
          rintro e Wm ⟨⟨bo, co, go, ko, bb, cb, tq, os, ro, rfl, _, hO, _, _, hol⟩, hb⟩
          obtain ⟨Wn, hWn⟩ : ∃ Wn, Wn = Wm.alloc (.cells #[.slice (some ⟨bb, 0, none⟩) ro.verbs.length cb, .string ro.kind, .string ro.team, .string ro.pre] 27) := ⟨_, rfl⟩
          have hbn : Below Wm.heap.size Wm Wn := by rw [hWn]; exact blw_alloc (Below.refl _ _) _
          have HBn : Hid (Below W2.heap.size W2 Wn) := blw_trans (blw_trans HBy.out hb) hbn
          have HN : Hid (∀ X, Below Wn.heap.size Wn X → TmsIn X bt ts ∧ RulsIn X g rs ∧ RulsIn X go os ∧ IntsIn X b r.verbs ∧ Boxed X Q #[.slice (some ⟨b, 0, none⟩) r.verbs.length c, .string r.kind, .string r.team, .string r.pre]) := fun X hX => by
            have h := HM.out X (blw_trans HBn.out hX)
            exact ⟨h.1, h.2.1, (hO.later hbn).later hX, h.2.2.1, h.2.2.2.1⟩
          have hrl : rs.length ≤ 100 := HS.out.2
          go_upto_region 17 with fail
          rw [← hWn]
          clear hWn hb hbn hO
          go_wp2
          go_loopw [18] (fun i wr => ∃ k : Nat, k ≤ rs.length ∧ i = .int .i64 (k : Nat) ∧ (∀ q ∈ rs.take k, covers ts os q = true) ∧ Below Wn.heap.size Wn wr) (fun i _ => rs.length - (intOf i).toNat)
          case atStart => exact ⟨0, Nat.zero_le _, rfl, fun q hq => by simp at hq, Below.refl _ _⟩
          case round =>
            obtain ⟨k, hk, rfl, hq, hW⟩ := hrel
            have HQ : Hid (∀ q ∈ rs.take k, covers ts os q = true) := hq
            have HW : Hid (Below Wn.heap.size Wn wr) := hW
            clear hq hW
            by_cases hlt : k < rs.length
            · obtain ⟨q, hqq⟩ : ∃ q, q = rs.getD k Rul.none := ⟨_, rfl⟩
              have hf := (HN.out wr HW.out).2.1.at_ k hlt
              have hgw : g < wr.heap.size := (HN.out wr HW.out).2.1.lt
              rw [← hqq] at hf
              obtain ⟨bq, cq, c0, c1, c2, c3, hi, hs⟩ := hf
              have HX : Hid (Calls Tryd.prog 5 #[.slice (some ⟨bt, 0, none⟩) ts.length ct, .slice (some ⟨go, 0, none⟩) os.length ko, .agg #[.slice (some ⟨bq, 0, none⟩) q.verbs.length cq, .string q.kind, .string q.team, .string q.pre]] wr fun e w' => e = .returned (.bool (covers ts os q)) ∧ Below wr.heap.size wr w') := coversI bt go bq ts os q wr (HN.out wr HW.out).1 (HN.out wr HW.out).2.2.1 hi hs
              have HG : Hid (q = rs.getD k Rul.none) := hqq
              clear hqq hi hs
              go_wp2_with fail
              refine HX.out.mono ?_
              rintro e w5 ⟨rfl, hb5⟩
              have HK : Hid (Below Wn.heap.size Wn w5) := blw_trans HW.out hb5
              clear hb5 c0 c1 c2 c3 hgw HX
              cases hn : covers ts os q
              · go_wp2
                go_ret
                exact ⟨rfl, blw_trans HB2.out (blw_trans HBn.out HK.out)⟩
              · have HE : Hid (∀ q ∈ rs.take (k + 1), covers ts os q = true) := by
                  intro x hx
                  rw [List.take_add_one] at hx
                  rcases List.mem_append.1 hx with hx | hx
                  · exact HQ.out x hx
                  · have e : x = q := by
                      rw [HG.out]
                      simp [hlt] at hx ⊢
                      exact hx
                    rw [e]; exact hn
                go_wp2
                go_roundw
                case rel => exact ⟨k + 1, by omega, by go_num, HE.out, HK.out⟩
                case measure => simp [intOf]; omega
            · skip
              have hx := (HN.out wr HW.out).2.2.2.2
              have hqz := hx.1
              have p0 : wr.cell? ⟨Q, 0, none⟩ = some (.slice (some ⟨b, 0, none⟩) r.verbs.length c) := hx.2 0
              have p1 : wr.cell? ⟨Q, 1, none⟩ = some (.string r.kind) := hx.2 1
              have p2 : wr.cell? ⟨Q, 2, none⟩ = some (.string r.team) := hx.2 2
              have p3 : wr.cell? ⟨Q, 3, none⟩ = some (.string r.pre) := hx.2 3
              clear hx
              have HCV : Hid (covers ts os r = true) := cov_on HCO.out.symm fun q hq => HQ.out q (by rw [List.take_of_length_le (by omega)]; exact hq)
              go_wp2_with fail
              refine (coversI bt go b ts os r wr (HN.out _ HW.out).1 (HN.out _ HW.out).2.2.1 (HN.out _ HW.out).2.2.2.1 HS.out.1).mono ?_
              rintro e Wl ⟨rfl, hb⟩
              have HL : Hid (Below wr.heap.size wr Wl) := hb
              rw [HCV.out]
              clear hb hqz p0 p1 p2 p3
              go_wp2
              go_ret
              exact ⟨rfl, blw_trans HB2.out (blw_trans HBn.out (blw_trans HW.out HL.out))⟩
        · have HSM : Hid ((rs.any fun q => allows ts q d) = true) := cov_sound HCO.out.symm ha
          clear ha
          have hy := HEy.out
          have ez := hy.1
          have e0 : Wy.cell? ⟨E, 0, none⟩ = some (.int .i64 d.verb) := hy.2 0
          have e1 : Wy.cell? ⟨E, 1, none⟩ = some (.string d.kind) := hy.2 1
          have e2 : Wy.cell? ⟨E, 2, none⟩ = some (.string d.team) := hy.2 2
          have e3 : Wy.cell? ⟨E, 3, none⟩ = some (.string d.name) := hy.2 3
          clear hy
          go_wp2_with fail
          refine (someI bt g ts rs d Wy (HM.out _ HBy.out).1 (HM.out _ HBy.out).2.1).mono ?_
          rintro e Wz ⟨rfl, hb⟩
          rw [HSM.out]
          have HBz : Hid (Below W2.heap.size W2 Wz) := blw_trans HBy.out hb
          clear hb ez e0 e1 e2 e3 HEy HBy
          go_upto_region 16 with fail
          go_wp2_with fail
          refine (drawCovers _ Wz (HM.out _ HBz.out).2.2.2.2.2).mono ?_
          rintro e Wm ⟨⟨bo, co, go, ko, bb, cb, tq, os, ro, rfl, _, hO, _, _, hol⟩, hb⟩
          obtain ⟨Wn, hWn⟩ : ∃ Wn, Wn = Wm.alloc (.cells #[.slice (some ⟨bb, 0, none⟩) ro.verbs.length cb, .string ro.kind, .string ro.team, .string ro.pre] 27) := ⟨_, rfl⟩
          have hbn : Below Wm.heap.size Wm Wn := by rw [hWn]; exact blw_alloc (Below.refl _ _) _
          have HBn : Hid (Below W2.heap.size W2 Wn) := blw_trans (blw_trans HBz.out hb) hbn
          have HN : Hid (∀ X, Below Wn.heap.size Wn X → TmsIn X bt ts ∧ RulsIn X g rs ∧ RulsIn X go os ∧ IntsIn X b r.verbs ∧ Boxed X Q #[.slice (some ⟨b, 0, none⟩) r.verbs.length c, .string r.kind, .string r.team, .string r.pre]) := fun X hX => by
            have h := HM.out X (blw_trans HBn.out hX)
            exact ⟨h.1, h.2.1, (hO.later hbn).later hX, h.2.2.1, h.2.2.2.1⟩
          have hrl : rs.length ≤ 100 := HS.out.2
          go_upto_region 17 with fail
          rw [← hWn]
          clear hWn hb hbn hO
          go_wp2
          go_loopw [18] (fun i wr => ∃ k : Nat, k ≤ rs.length ∧ i = .int .i64 (k : Nat) ∧ (∀ q ∈ rs.take k, covers ts os q = true) ∧ Below Wn.heap.size Wn wr) (fun i _ => rs.length - (intOf i).toNat)
          case atStart => exact ⟨0, Nat.zero_le _, rfl, fun q hq => by simp at hq, Below.refl _ _⟩
          case round =>
            obtain ⟨k, hk, rfl, hq, hW⟩ := hrel
            have HQ : Hid (∀ q ∈ rs.take k, covers ts os q = true) := hq
            have HW : Hid (Below Wn.heap.size Wn wr) := hW
            clear hq hW
            by_cases hlt : k < rs.length
            · obtain ⟨q, hqq⟩ : ∃ q, q = rs.getD k Rul.none := ⟨_, rfl⟩
              have hf := (HN.out wr HW.out).2.1.at_ k hlt
              have hgw : g < wr.heap.size := (HN.out wr HW.out).2.1.lt
              rw [← hqq] at hf
              obtain ⟨bq, cq, c0, c1, c2, c3, hi, hs⟩ := hf
              have HX : Hid (Calls Tryd.prog 5 #[.slice (some ⟨bt, 0, none⟩) ts.length ct, .slice (some ⟨go, 0, none⟩) os.length ko, .agg #[.slice (some ⟨bq, 0, none⟩) q.verbs.length cq, .string q.kind, .string q.team, .string q.pre]] wr fun e w' => e = .returned (.bool (covers ts os q)) ∧ Below wr.heap.size wr w') := coversI bt go bq ts os q wr (HN.out wr HW.out).1 (HN.out wr HW.out).2.2.1 hi hs
              have HG : Hid (q = rs.getD k Rul.none) := hqq
              clear hqq hi hs
              go_wp2_with fail
              refine HX.out.mono ?_
              rintro e w5 ⟨rfl, hb5⟩
              have HK : Hid (Below Wn.heap.size Wn w5) := blw_trans HW.out hb5
              clear hb5 c0 c1 c2 c3 hgw HX
              cases hn : covers ts os q
              · go_wp2
                go_ret
                exact ⟨rfl, blw_trans HB2.out (blw_trans HBn.out HK.out)⟩
              · have HE : Hid (∀ q ∈ rs.take (k + 1), covers ts os q = true) := by
                  intro x hx
                  rw [List.take_add_one] at hx
                  rcases List.mem_append.1 hx with hx | hx
                  · exact HQ.out x hx
                  · have e : x = q := by
                      rw [HG.out]
                      simp [hlt] at hx ⊢
                      exact hx
                    rw [e]; exact hn
                go_wp2
                go_roundw
                case rel => exact ⟨k + 1, by omega, by go_num, HE.out, HK.out⟩
                case measure => simp [intOf]; omega
            · skip
              have hx := (HN.out wr HW.out).2.2.2.2
              have hqz := hx.1
              have p0 : wr.cell? ⟨Q, 0, none⟩ = some (.slice (some ⟨b, 0, none⟩) r.verbs.length c) := hx.2 0
              have p1 : wr.cell? ⟨Q, 1, none⟩ = some (.string r.kind) := hx.2 1
              have p2 : wr.cell? ⟨Q, 2, none⟩ = some (.string r.team) := hx.2 2
              have p3 : wr.cell? ⟨Q, 3, none⟩ = some (.string r.pre) := hx.2 3
              clear hx
              have HCV : Hid (covers ts os r = true) := cov_on HCO.out.symm fun q hq => HQ.out q (by rw [List.take_of_length_le (by omega)]; exact hq)
              go_wp2_with fail
              refine (coversI bt go b ts os r wr (HN.out _ HW.out).1 (HN.out _ HW.out).2.2.1 (HN.out _ HW.out).2.2.2.1 HS.out.1).mono ?_
              rintro e Wl ⟨rfl, hb⟩
              have HL : Hid (Below wr.heap.size wr Wl) := hb
              rw [HCV.out]
              clear hb hqz p0 p1 p2 p3
              go_wp2
              go_ret
              exact ⟨rfl, blw_trans HB2.out (blw_trans HBn.out (blw_trans HW.out HL.out))⟩
  · obtain rfl : CO = false := by
      have h := HU.out.1
      cases CO
      · rfl
      · simp at h
    have HU2 := HU.out.2 rfl
    have hx := (HM.out W6 HB6.out).2.2.2.1
    have hqz := hx.1
    have p0 : W6.cell? ⟨Q, 0, none⟩ = some (.slice (some ⟨b, 0, none⟩) r.verbs.length c) := hx.2 0
    have p1 : W6.cell? ⟨Q, 1, none⟩ = some (.string r.kind) := hx.2 1
    have p2 : W6.cell? ⟨Q, 2, none⟩ = some (.string r.team) := hx.2 2
    have p3 : W6.cell? ⟨Q, 3, none⟩ = some (.string r.pre) := hx.2 3
    clear hx
    have hy := HD6.out
    have ez := hy.1
    have e0 : W6.cell? ⟨D, 0, none⟩ = some (.int .i64 aV) := hy.2 0
    have e1 : W6.cell? ⟨D, 1, none⟩ = some (.string aK) := hy.2 1
    have e2 : W6.cell? ⟨D, 2, none⟩ = some (.string aT) := hy.2 2
    have e3 : W6.cell? ⟨D, 3, none⟩ = some (.string aP) := hy.2 3
    clear hy
    go_wp2_with fail
    refine (allowsI bt b ts r ⟨aV, aK, aT, aP⟩ W6 (HM.out _ HB6.out).1 (HM.out _ HB6.out).2.2.1 HS.out.1).mono ?_
    rintro e W7 ⟨rfl, hb⟩
    rw [HU2.1]
    have HB7 : Hid (Below W2.heap.size W2 W7) := blw_trans HB6.out hb
    have HD7 : Hid (Boxed W7 D #[.int .i64 aV, .string aK, .string aT, .string aP]) := HD6.out.later hb
    clear hb hqz p0 p1 p2 p3 ez e0 e1 e2 e3 HD6 HB6
    have hy := HD7.out
    have ez := hy.1
    have e0 : W7.cell? ⟨D, 0, none⟩ = some (.int .i64 aV) := hy.2 0
    have e1 : W7.cell? ⟨D, 1, none⟩ = some (.string aK) := hy.2 1
    have e2 : W7.cell? ⟨D, 2, none⟩ = some (.string aT) := hy.2 2
    have e3 : W7.cell? ⟨D, 3, none⟩ = some (.string aP) := hy.2 3
    clear hy
    have HSM : Hid ((rs.any fun q => allows ts q ⟨aV, aK, aT, aP⟩) = false) := HU2.2
    clear HU2
    go_wp2_with fail
    refine (someI bt g ts rs ⟨aV, aK, aT, aP⟩ W7 (HM.out _ HB7.out).1 (HM.out _ HB7.out).2.1).mono ?_
    rintro e W7b ⟨rfl, hb⟩
    rw [HSM.out]
    have HB7b : Hid (Below W2.heap.size W2 W7b) := blw_trans HB7.out hb
    clear hb ez e0 e1 e2 e3 HD7 HB7
    go_upto_region 10 with fail
    refine region10 bt ct g cap b c Q ts rs r _ W7b _ rfl rfl rfl rfl (HM.out _ HB7b.out).1 (HM.out _ HB7b.out).2.1 (HM.out _ HB7b.out).2.2.1 HS.out.1 HS.out.2 (HM.out _ HB7b.out).2.2.2.1 ?_
    intro W8 vs hb el
    have HB8 : Hid (Below W2.heap.size W2 W8) := blw_trans HB7b.out hb
    obtain ⟨AL, hAL⟩ : ∃ AL, AL = allOk ts rs r := ⟨_, rfl⟩
    rw [← hAL] at el
    have HU : Hid (true = (AL && !false)) := by show _ = _; rw [hAL]; exact HU.out.1
    simp only [RY.putAll, ops10, Act.put, List.setIfInBounds_toArray, List.set_cons_zero, List.set_cons_succ]
    rw [el]
    generalize vs 67 = s67
    generalize vs 68 = s68
    generalize vs 69 = s69
    generalize vs 70 = s70
    generalize vs 71 = s71
    generalize vs 72 = s72
    generalize vs 73 = s73
    generalize vs 74 = s74
    generalize vs 75 = s75
    clear hb el hAL
    cases AL
    · exact absurd HU.out (by decide)
    · skip
      go_upto_region 13 with fail
      go_wp2_with fail
      refine (drawAllows _ W8 (HM.out _ HB8.out).2.2.2.2.2).mono ?_
      rintro e W9 ⟨⟨b1, n1', c1, b2, n2', c2, q1, q2, q3, d, rfl, hd⟩, hb⟩
      obtain ⟨Wx, hWx⟩ : ∃ Wx, Wx = (W9.alloc (.cells #[.slice (some ⟨b2, 0, none⟩) n2' c2, .string q1, .string q2, .string q3] 27)).alloc (.cells #[.int .i64 d.verb, .string d.kind, .string d.team, .string d.name] 32) := ⟨_, rfl⟩
      obtain ⟨E, hE⟩ : ∃ E, E = W9.heap.size + 1 := ⟨_, rfl⟩
      have hbx : Below W9.heap.size W9 Wx := by rw [hWx]; exact blw_alloc (blw_alloc (Below.refl _ _) _) _
      have HBx : Hid (Below W2.heap.size W2 Wx) := blw_trans (blw_trans HB8.out hb) hbx
      have HE : Hid (Boxed Wx E #[.int .i64 d.verb, .string d.kind, .string d.team, .string d.name]) := by
        show Boxed _ _ _
        rw [hWx, hE]
        have := Boxed.new (W9.alloc (.cells #[.slice (some ⟨b2, 0, none⟩) n2' c2, .string q1, .string q2, .string q3] 27)) #[.int .i64 d.verb, .string d.kind, .string d.team, .string d.name] 32
        simpa using this
      go_upto_region 14 with fail
      rw [← hWx, ← hE]
      clear hWx hE hb hbx HB8
      go_upto_region 16 with fail
      go_wp2_with fail
      refine (drawCovers _ Wx (HM.out _ HBx.out).2.2.2.2.2).mono ?_
      rintro e Wm ⟨⟨bo, co, go, ko, bb, cb, tq, os, ro, rfl, _, hO, _, _, hol⟩, hb⟩
      obtain ⟨Wn, hWn⟩ : ∃ Wn, Wn = Wm.alloc (.cells #[.slice (some ⟨bb, 0, none⟩) ro.verbs.length cb, .string ro.kind, .string ro.team, .string ro.pre] 27) := ⟨_, rfl⟩
      have hbn : Below Wm.heap.size Wm Wn := by rw [hWn]; exact blw_alloc (Below.refl _ _) _
      have HBn : Hid (Below W2.heap.size W2 Wn) := blw_trans (blw_trans HBx.out hb) hbn
      have HN : Hid (∀ X, Below Wn.heap.size Wn X → TmsIn X bt ts ∧ RulsIn X g rs ∧ RulsIn X go os ∧ IntsIn X b r.verbs ∧ Boxed X Q #[.slice (some ⟨b, 0, none⟩) r.verbs.length c, .string r.kind, .string r.team, .string r.pre]) := fun X hX => by
        have h := HM.out X (blw_trans HBn.out hX)
        exact ⟨h.1, h.2.1, (hO.later hbn).later hX, h.2.2.1, h.2.2.2.1⟩
      have hrl : rs.length ≤ 100 := HS.out.2
      go_upto_region 17 with fail
      rw [← hWn]
      clear hWn hb hbn hO
      go_wp2
      go_loopw [18] (fun i wr => ∃ k : Nat, k ≤ rs.length ∧ i = .int .i64 (k : Nat) ∧ (∀ q ∈ rs.take k, covers ts os q = true) ∧ Below Wn.heap.size Wn wr) (fun i _ => rs.length - (intOf i).toNat)
      case atStart => exact ⟨0, Nat.zero_le _, rfl, fun q hq => by simp at hq, Below.refl _ _⟩
      case round =>
        obtain ⟨k, hk, rfl, hq, hW⟩ := hrel
        have HQ : Hid (∀ q ∈ rs.take k, covers ts os q = true) := hq
        have HW : Hid (Below Wn.heap.size Wn wr) := hW
        clear hq hW
        by_cases hlt : k < rs.length
        · obtain ⟨q, hqq⟩ : ∃ q, q = rs.getD k Rul.none := ⟨_, rfl⟩
          have hf := (HN.out wr HW.out).2.1.at_ k hlt
          have hgw : g < wr.heap.size := (HN.out wr HW.out).2.1.lt
          rw [← hqq] at hf
          obtain ⟨bq, cq, c0, c1, c2, c3, hi, hs⟩ := hf
          have HX : Hid (Calls Tryd.prog 5 #[.slice (some ⟨bt, 0, none⟩) ts.length ct, .slice (some ⟨go, 0, none⟩) os.length ko, .agg #[.slice (some ⟨bq, 0, none⟩) q.verbs.length cq, .string q.kind, .string q.team, .string q.pre]] wr fun e w' => e = .returned (.bool (covers ts os q)) ∧ Below wr.heap.size wr w') := coversI bt go bq ts os q wr (HN.out wr HW.out).1 (HN.out wr HW.out).2.2.1 hi hs
          have HG : Hid (q = rs.getD k Rul.none) := hqq
          clear hqq hi hs
          go_wp2_with fail
          refine HX.out.mono ?_
          rintro e w5 ⟨rfl, hb5⟩
          have HK : Hid (Below Wn.heap.size Wn w5) := blw_trans HW.out hb5
          clear hb5 c0 c1 c2 c3 hgw HX
          cases hn : covers ts os q
          · go_wp2
            go_ret
            exact ⟨rfl, blw_trans HB2.out (blw_trans HBn.out HK.out)⟩
          · have HE : Hid (∀ q ∈ rs.take (k + 1), covers ts os q = true) := by
              intro x hx
              rw [List.take_add_one] at hx
              rcases List.mem_append.1 hx with hx | hx
              · exact HQ.out x hx
              · have e : x = q := by
                  rw [HG.out]
                  simp [hlt] at hx ⊢
                  exact hx
                rw [e]; exact hn
            go_wp2
            go_roundw
            case rel => exact ⟨k + 1, by omega, by go_num, HE.out, HK.out⟩
            case measure => simp [intOf]; omega
        · skip
          go_wp2
          go_ret
          exact ⟨rfl, blw_trans HB2.out (blw_trans HBn.out HW.out)⟩

end Go.Proofs.YtfmidkdpclfffaaDoor
