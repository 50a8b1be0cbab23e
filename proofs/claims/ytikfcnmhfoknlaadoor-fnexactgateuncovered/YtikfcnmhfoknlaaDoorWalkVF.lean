/-
  Walks: an act that is not covered: the specification.
-/
import Derived.Test.YtikfcnmhfoknlaaDoorTwo
import Derived.Test.YtikfcnmhfoknlaaDoorWalkVD
import Derived.Test.YtikfcnmhfoknlaaDoorWalkSE
import Derived.Test.YtikfcnmhfoknlaaDoorCq
namespace Go.Proofs.YtikfcnmhfoknlaaDoor
open Go.RowKit Go.Deep

theorem ActAt.four {W : World} {P : Nat} (h : OwnBlk W P 31 4) (v : Int) (k t n : ByteArray) : ActAt ((((W.setCell ⟨P, 0, none⟩ (.int .i64 v)).setCell ⟨P, 1, none⟩ (.string k)).setCell ⟨P, 2, none⟩ (.string t)).setCell ⟨P, 3, none⟩ (.string n)) P v k t n := by
  obtain ⟨r0, r1, r2, r3⟩ := four_puts h (.int .i64 v) (.string k) (.string t) (.string n)
  exact ⟨(((h.setCell _ _).setCell _ _).setCell _ _).setCell _ _, r0, r1, r2, r3⟩
theorem take_snocT (ts : List Tm) (rs : List Rul) (k : Nat) (hk : k < ts.length) : namesOf (ts.take (k + 1)) rs = namesOf (ts.take k) rs ++ [(ts.getD k Tm.none).nm] := by
  have e : ts.getD k Tm.none = ts[k] := by simp [hk]
  unfold namesOf; rw [List.take_succ_eq_append_getElem hk, e, List.map_append, List.append_assoc]; rfl
theorem Tryd.und51 : Tryd.prog.underlying 51 = some (.slice 9) := by kernel_rfl
theorem ownk {w : World} {lo : Nat} {v : Value} {L : List ByteArray} {k : Nat} (h : w.ownsRow lo 9 1 v L.length (L.map Value.string)) (e : L.length = k) : w.ownsRow lo 9 1 v k (L.map Value.string) := by
  rw [← e]; exact h

set_option maxRecDepth 8000 in
set_option maxHeartbeats 16000000 in
theorem uncS (B Br b : Nat) (ts : List Tm) (rs : List Rul) (r : Rul) (w : World) (hT : TmsIn w B ts) (hR : RulsIn w Br rs) (h : IntsIn w b r.verbs) (hs : r.sized) :
    Calls Tryd.prog 7 #[.slice (some ⟨B, 0, none⟩) ts.length ts.length, .slice (some ⟨Br, 0, none⟩) rs.length rs.length, .agg #[.slice (some ⟨b, 0, none⟩) r.verbs.length r.verbs.length, .string r.kind, .string r.team, .string r.pre]] w fun e w' => e = .returned (.tuple #[.agg #[.int .i64 (uncV ts rs r), .string (uncK ts rs r), .string (uncT ts rs r), .string (uncP ts rs r)], .bool (uncOk ts rs r)]) ∧ Below w.heap.size w w' := by
  obtain ⟨i0, hi, hz0, hz1, hz2⟩ := info_parts Tryd.info9
  have hl1 := hT.len
  have hl2 := hR.len
  obtain ⟨w2, hw2⟩ : ∃ w2, w2 = ((w.alloc (.cells #[.slice (some ⟨b, 0, none⟩) r.verbs.length r.verbs.length, .string r.kind, .string r.team, .string r.pre] 38)).alloc (.cells #[.int .i64 0, .string ⟨#[]⟩, .string ⟨#[]⟩, .string ⟨#[]⟩] 31)) := ⟨_, rfl⟩
  have HSZ : Hid (w2.heap.size = w.heap.size + 1 + 1) := by show w2.heap.size = _; rw [hw2]; simp
  have HM : Hid (∀ W, Below w2.heap.size w2 W → TmsIn W B ts ∧ RulsIn W Br rs ∧ IntsIn W b r.verbs ∧ Boxed W w.heap.size #[.slice (some ⟨b, 0, none⟩) r.verbs.length r.verbs.length, .string r.kind, .string r.team, .string r.pre] ∧ OwnBlk W (w.heap.size + 1) 31 4 ∧ Below w.heap.size w W) := by
    have hBw : Below w.heap.size w w2 := by rw [hw2]; exact blw_alloc (blw_alloc (Below.refl _ _) _) _
    have x3 : Boxed w2 w.heap.size #[.slice (some ⟨b, 0, none⟩) r.verbs.length r.verbs.length, .string r.kind, .string r.team, .string r.pre] := by rw [hw2]; exact (Boxed.new w _ 38).later (blw_alloc (Below.refl _ _) _)
    have x4 : OwnBlk w2 (w.heap.size + 1) 31 4 := by
      rw [hw2]
      have := OwnBlk.alloc (w.alloc (.cells #[.slice (some ⟨b, 0, none⟩) r.verbs.length r.verbs.length, .string r.kind, .string r.team, .string r.pre] 38)) #[.int .i64 0, .string ⟨#[]⟩, .string ⟨#[]⟩, .string ⟨#[]⟩] 31 4 rfl
      simpa using this
    intro W hW
    have hBW := blw_trans hBw hW
    exact ⟨hT.later hBW, hR.later hBW, h.later hBW, x3.later hW, x4.later hW, hBW⟩
  have HZ : Hid r.sized := hs
  have hm2 := HM.out w2 (Below.refl _ _)
  have c0 : w2.cell? ⟨w.heap.size, 0, none⟩ = some (.slice (some ⟨b, 0, none⟩) r.verbs.length r.verbs.length) := hm2.2.2.2.1.2 0
  have c1 : w2.cell? ⟨w.heap.size, 1, none⟩ = some (.string r.kind) := hm2.2.2.2.1.2 1
  have c2 : w2.cell? ⟨w.heap.size, 2, none⟩ = some (.string r.team) := hm2.2.2.2.1.2 2
  have c3 : w2.cell? ⟨w.heap.size, 3, none⟩ = some (.string r.pre) := hm2.2.2.2.1.2 3
  obtain ⟨A, hA⟩ : ∃ A, A = allOk ts rs r := ⟨_, rfl⟩
  obtain ⟨V, hV⟩ : ∃ V, V = lackOf ts rs r r.verbs := ⟨_, rfl⟩
  have HAL : Hid (A = allOk ts rs r ∧ V = lackOf ts rs r r.verbs) := ⟨hA, hV⟩
  obtain ⟨U, hU⟩ : ∃ U, U = uncOk ts rs r := ⟨_, rfl⟩
  obtain ⟨VV, hVV⟩ : ∃ VV, VV = uncV ts rs r := ⟨_, rfl⟩
  obtain ⟨K, hK⟩ : ∃ K, K = uncK ts rs r := ⟨_, rfl⟩
  obtain ⟨T, hTt⟩ : ∃ T, T = uncT ts rs r := ⟨_, rfl⟩
  obtain ⟨NP, hNP⟩ : ∃ NP, NP = uncP ts rs r := ⟨_, rfl⟩
  have HU : Hid (U = uncOk ts rs r ∧ VV = uncV ts rs r ∧ K = uncK ts rs r ∧ T = uncT ts rs r ∧ NP = uncP ts rs r) := ⟨hU, hVV, hK, hTt, hNP⟩
  rw [← hU, ← hVV, ← hK, ← hTt, ← hNP]
  have HBAD : Hid ((A = false ∨ (V == 0) = true) → U = false ∧ VV = 0 ∧ K = ⟨#[]⟩ ∧ T = ⟨#[]⟩ ∧ NP = ⟨#[]⟩) := by
    intro hb
    have hf : uncOk ts rs r = false := by
      unfold uncOk
      rw [← HAL.out.1, ← HAL.out.2]
      rcases hb with hb | hb
      · rw [hb]; rfl
      · rw [hb]; cases A <;> rfl
    have q := HU.out
    unfold uncV uncK uncT uncP at q
    rw [hf] at q
    exact q
  have HGOOD : Hid (A = true → (V == 0) = false → U = true ∧ VV = V ∧ NP = r.pre ∧ K = uncKind rs r ∧ T = uncTeam ts rs r) := by
    intro ha hq
    have ht : uncOk ts rs r = true := by unfold uncOk; rw [← HAL.out.1, ← HAL.out.2, ha, hq]; rfl
    have q := HU.out
    unfold uncV uncK uncT uncP at q
    rw [ht, ← HAL.out.2] at q
    exact ⟨q.1, q.2.1, q.2.2.2.2, q.2.2.1, q.2.2.2.1⟩
  clear hA hV hU hVV hK hTt hNP hT hR h hs hm2
  go_enter Tryd.func7, Tryd.ntmps7
  go_upto_region 1 with fail
  rw [← hw2]
  clear hw2
  go_wp2_with fail
  refine (l4AllOk B Br b ts rs r w2 (HM.out _ (Below.refl _ _)).1 (HM.out _ (Below.refl _ _)).2.1 (HM.out _ (Below.refl _ _)).2.2.1 HZ.out).mono ?_
  rintro e w3 ⟨rfl, hb3⟩
  rw [← HAL.out.1]
  have HB3 : Hid (Below w2.heap.size w2 w3) := hb3
  clear hb3 c0 c1 c2 c3
  cases hA : A
  · have HE : Hid (U = false ∧ VV = 0 ∧ K = ⟨#[]⟩ ∧ T = ⟨#[]⟩ ∧ NP = ⟨#[]⟩) := HBAD.out (Or.inl hA)
    clear hA
    have hO := (HM.out w3 HB3.out).2.2.2.2.1
    have hBw := (HM.out w3 HB3.out).2.2.2.2.2
    have hfz := hO.frozen
    obtain ⟨y0, o0⟩ := hO.cell 0 (by omega)
    obtain ⟨y1, o1⟩ := hO.cell 1 (by omega)
    obtain ⟨y2, o2⟩ := hO.cell 2 (by omega)
    obtain ⟨y3, o3⟩ := hO.cell 3 (by omega)
    go_wp2
    obtain ⟨r0, r1, r2, r3⟩ := four_puts hO (.int .i64 0) (.string ⟨#[]⟩) (.string ⟨#[]⟩) (.string ⟨#[]⟩)
    refine bodyPost_ret (v := .tuple #[.agg #[.int .i64 0, .string ⟨#[]⟩, .string ⟨#[]⟩, .string ⟨#[]⟩], .bool false]) (by simp only [results, Tryd.results7]; simp [go_sem, r0, r1, r2, r3]) rfl ⟨ret_unc HE.out.1.symm HE.out.2.1.symm HE.out.2.2.1.symm HE.out.2.2.2.1.symm HE.out.2.2.2.2.symm, ?_⟩
    exact four_below hBw (by omega) _ _ _ _
  have hm3 := HM.out w3 HB3.out
  have c0 : w3.cell? ⟨w.heap.size, 0, none⟩ = some (.slice (some ⟨b, 0, none⟩) r.verbs.length r.verbs.length) := hm3.2.2.2.1.2 0
  have c1 : w3.cell? ⟨w.heap.size, 1, none⟩ = some (.string r.kind) := hm3.2.2.2.1.2 1
  have c2 : w3.cell? ⟨w.heap.size, 2, none⟩ = some (.string r.team) := hm3.2.2.2.1.2 2
  have c3 : w3.cell? ⟨w.heap.size, 3, none⟩ = some (.string r.pre) := hm3.2.2.2.1.2 3
  clear hm3
  go_wp2_with fail
  refine (l4Lacks B Br b ts rs r w3 (HM.out _ HB3.out).1 (HM.out _ HB3.out).2.1 (HM.out _ HB3.out).2.2.1).mono ?_
  rintro e w4 ⟨rfl, hb4⟩
  rw [← HAL.out.2]
  have HB4 : Hid (Below w2.heap.size w2 w4) := blw_trans HB3.out hb4
  clear hb4 c0 c1 c2 c3 HB3
  cases hq : (V == 0)
  case true =>
    have HE : Hid (U = false ∧ VV = 0 ∧ K = ⟨#[]⟩ ∧ T = ⟨#[]⟩ ∧ NP = ⟨#[]⟩) := HBAD.out (Or.inr hq)
    clear hA
    have hO := (HM.out w4 HB4.out).2.2.2.2.1
    have hBw := (HM.out w4 HB4.out).2.2.2.2.2
    have hfz := hO.frozen
    obtain ⟨y0, o0⟩ := hO.cell 0 (by omega)
    obtain ⟨y1, o1⟩ := hO.cell 1 (by omega)
    obtain ⟨y2, o2⟩ := hO.cell 2 (by omega)
    obtain ⟨y3, o3⟩ := hO.cell 3 (by omega)
    go_wp2
    obtain ⟨r0, r1, r2, r3⟩ := four_puts hO (.int .i64 0) (.string ⟨#[]⟩) (.string ⟨#[]⟩) (.string ⟨#[]⟩)
    refine bodyPost_ret (v := .tuple #[.agg #[.int .i64 0, .string ⟨#[]⟩, .string ⟨#[]⟩, .string ⟨#[]⟩], .bool false]) (by simp only [results, Tryd.results7]; simp [go_sem, r0, r1, r2, r3]) rfl ⟨ret_unc HE.out.1.symm HE.out.2.1.symm HE.out.2.2.1.symm HE.out.2.2.2.1.symm HE.out.2.2.2.2.symm, ?_⟩
    exact four_below hBw (by omega) _ _ _ _
  have HG : Hid (U = true ∧ VV = V ∧ NP = r.pre ∧ K = uncKind rs r ∧ T = uncTeam ts rs r) := HGOOD.out hA hq
  clear hA HGOOD HBAD
  obtain ⟨w5, hw5⟩ : ∃ w5, w5 = ((w4.alloc (.cells #[] 9)).alloc (.cells #[] 9)) := ⟨_, rfl⟩
  have HT5 : Hid (Two w5 w2.heap.size (.slice (some ⟨w4.heap.size, 0, none⟩) 0 0) (.slice (some ⟨w4.heap.size + 1, 0, none⟩) 0 0) [] []) := by rw [hw5]; exact Two.start w4 _ HB4.out.size
  have HB5 : Hid (Below w2.heap.size w2 w5) := by rw [hw5]; exact blw_alloc (blw_alloc HB4.out _) _
  go_upto_region 5 with fail
  clear hq
  rw [← hw5]
  clear hw5
  go_wp2
  go_loopw [8, 9, 10] (fun v u i wr => ∃ (k : Nat) (a : Option Addr) (c : Nat) (a' : Option Addr) (c' : Nat), k ≤ rs.length ∧ i = .int .i64 k ∧ v = .slice a k c ∧ u = .slice a' k c' ∧ Two wr w2.heap.size v u (kindsOf (rs.take k)) ((rs.take k).map (fun r => r.team)) ∧ Below w2.heap.size w2 wr) (fun _ _ i _ => rs.length - (intOf i).toNat)
  case atStart => exact ⟨0, some ⟨w4.heap.size, 0, none⟩, 0, some ⟨w4.heap.size + 1, 0, none⟩, 0, Nat.zero_le _, rfl, rfl, rfl, HT5.out, HB5.out⟩
  case round =>
    obtain ⟨k, a, c, a', c', hk, rfl, rfl, rfl, hTw, hW⟩ := hrel
    clear HT5 HB5
    by_cases hlt : k < rs.length
    · obtain ⟨q, hq⟩ : ∃ q, q = rs.getD k Rul.none := ⟨_, rfl⟩
      have hf := (HM.out _ hW).2.1.at_ k hlt
      rw [← hq] at hf
      obtain ⟨bq, _, c0, c1, c2, c3, _, _⟩ := hf
      obtain ⟨L, hL⟩ : ∃ L, L = kindsOf (rs.take k) := ⟨_, rfl⟩
      obtain ⟨M, hM⟩ : ∃ M, M = (rs.take k).map (fun r => r.team) := ⟨_, rfl⟩
      have HL : Hid (kindsOf (rs.take (k + 1)) = L ++ [q.kind] ∧ (rs.take (k + 1)).map (fun r => r.team) = M ++ [q.team] ∧ L.length = k ∧ M.length = k) := ⟨by rw [hL, hq]; exact take_snocK rs k hlt, by rw [hM, hq]; exact take_snocN rs k hlt, by rw [hL]; unfold kindsOf; simp; omega, by rw [hM]; simp; omega⟩
      rw [← hL, ← hM] at hTw
      have HQ : Hid (q = rs.getD k Rul.none) := hq
      clear hL hM hq c0 c3
      have HT : Hid (Two wr w2.heap.size (.slice a k c) (.slice a' k c') L M) := hTw
      have HW : Hid (Below w2.heap.size w2 wr) := hW
      have hs4 : w2.heap.size ≤ wr.heap.size := hW.size
      clear hTw hW
      go_wp2_with (at_builtin; refine wpList_append_own_at _ rfl _ _ 51 rfl w2.heap.size 9 i0 (.string ⟨#[]⟩) 1 16 Tryd.und51 hi hz0 hz1 hz2 rfl (by decide) (.slice a k c) k (L.map Value.string) rfl ?c0 ⟨wr.heap.size, 0, none⟩ 1 1 [.string q.kind] rfl ?c1 (cell_one_new _ _ _) ?c3 ?c4 ?c5 ?c6 ?_)
      case c0 => exact ownk (owns_later HT.out.1 (blw_alloc (Below.refl _ _) _)) HL.out.2.2.1
      case c1 => rfl
      case c3 => intro u hu; simp at hu; rcases hu with rfl; rfl
      case c4 => unfold maxLen; omega
      case c5 => omega
      case c6 => simp; omega
      intro v' w6 hown hgrow _ hat
      obtain ⟨a6, d6, hv6⟩ := owns_slice hown
      subst hv6
      have hbt : Below wr.heap.size wr (wr.alloc (.cells #[.string q.kind] 9)) := blw_alloc (Below.refl _ _) _
      have HN6 : Hid (Two w6 w2.heap.size (.slice a6 (k + 1) d6) (.slice a' k c') (L ++ [q.kind]) M) := (HT.out.later hbt).add (by rw [HL.out.2.2.1]; exact hown) hgrow (by simpa using hat)
      have hB6 : Below w2.heap.size w2 w6 := by
        have hq : Below w2.heap.size w2 (wr.alloc (.cells #[.string q.kind] 9)) := blw_trans HW.out hbt
        exact Below.grown hq hgrow hq.size (fun x hx => (World.ownsRow.lt HT.out.1 x hx).1)
      have HW6 : Hid (Below w2.heap.size w2 w6) := hB6
      clear hown hgrow hat hbt HT HW hs4 c1 c2
      have hs6 : w2.heap.size ≤ w6.heap.size := hB6.size
      obtain ⟨_, _, _, _, c2, _, _, _⟩ := (HM.out _ hB6).2.1.at_ k hlt
      rw [← HQ.out] at c2
      clear hB6
      go_wp2_with (at_builtin; refine wpList_append_own_at _ rfl _ _ 51 rfl w2.heap.size 9 i0 (.string ⟨#[]⟩) 1 16 Tryd.und51 hi hz0 hz1 hz2 rfl (by decide) (.slice a' k c') k (M.map Value.string) rfl ?d0 ⟨w6.heap.size, 0, none⟩ 1 1 [.string q.team] rfl ?d1 (cell_one_new _ _ _) ?d3 ?d4 ?d5 ?d6 ?_)
      case d0 => exact ownk (owns_later HN6.out.2.1 (blw_alloc (Below.refl _ _) _)) HL.out.2.2.2
      case d1 => rfl
      case d3 => intro u hu; simp at hu; rcases hu with rfl; rfl
      case d4 => unfold maxLen; omega
      case d5 => omega
      case d6 => simp; omega
      intro v' w7 hown hgrow _ hat
      obtain ⟨a7, d7, hv7⟩ := owns_slice hown
      subst hv7
      have hbt : Below w6.heap.size w6 (w6.alloc (.cells #[.string q.team] 9)) := blw_alloc (Below.refl _ _) _
      have HN7 : Hid (Two w7 w2.heap.size (.slice a6 (k + 1) d6) (.slice a7 (k + 1) d7) (L ++ [q.kind]) (M ++ [q.team])) := ((HN6.out.later hbt).symm.add (by rw [HL.out.2.2.2]; exact hown) hgrow (by simpa using hat)).symm
      have HB7 : Hid (Below w2.heap.size w2 w7) := by
        have hq : Below w2.heap.size w2 (w6.alloc (.cells #[.string q.team] 9)) := blw_trans HW6.out hbt
        exact Below.grown hq hgrow hq.size (fun x hx => (World.ownsRow.lt HN6.out.2.1 x hx).1)
      clear hown hgrow hat hbt HN6 HW6 hs6 c2
      go_wp2
      go_roundw
      case rel => exact ⟨k + 1, a6, d6, a7, d7, by omega, by go_num, rfl, rfl, by rw [HL.out.1, HL.out.2.1]; exact HN7.out, HB7.out⟩
      case measure => simp [intOf]; omega
    · have hk : k = rs.length := by omega
      subst hk
      rw [List.take_length] at hTw
      have HT : Hid (Two wr w2.heap.size (.slice a rs.length c) (.slice a' rs.length c') (kindsOf rs) (rs.map (fun r => r.team))) := hTw
      have HW : Hid (Below w2.heap.size w2 wr) := hW
      clear hTw hW hlt
      go_wp2
      go_loopw [9, 11] (fun u i wr => ∃ (k : Nat) (a1 : Option Addr) (c1 : Nat), k ≤ ts.length ∧ i = .int .i64 k ∧ u = .slice a1 (rs.length + k) c1 ∧ Two wr w2.heap.size (.slice a rs.length c) u (kindsOf rs) (namesOf (ts.take k) rs) ∧ Below w2.heap.size w2 wr) (fun _ i _ => ts.length - (intOf i).toNat)
      case atStart => exact ⟨0, a', c', Nat.zero_le _, rfl, rfl, by have := HT.out; simpa [namesOf] using this, HW.out⟩
      case round =>
        obtain ⟨k, a1, c1, hk, rfl, rfl, hTw, hW⟩ := hrel
        clear HT HW
        by_cases hlt : k < ts.length
        · obtain ⟨q, hq⟩ : ∃ q, q = ts.getD k Tm.none := ⟨_, rfl⟩
          have hf := (HM.out _ hW).1.at_ k hlt
          rw [← hq] at hf
          have c0 := hf.c0
          obtain ⟨M, hM⟩ : ∃ M, M = namesOf (ts.take k) rs := ⟨_, rfl⟩
          have HL : Hid (namesOf (ts.take (k + 1)) rs = M ++ [q.nm] ∧ M.length = rs.length + k) := ⟨by rw [hM, hq]; exact take_snocT ts rs k hlt, by rw [hM]; unfold namesOf; simp; omega⟩
          rw [← hM] at hTw
          have HT : Hid (Two wr w2.heap.size (.slice a rs.length c) (.slice a1 (rs.length + k) c1) (kindsOf rs) M) := hTw
          have HW : Hid (Below w2.heap.size w2 wr) := hW
          have hs4 : w2.heap.size ≤ wr.heap.size := hW.size
          clear hM hq hTw hW hf
          go_wp2_with (at_builtin; refine wpList_append_own_at _ rfl _ _ 51 rfl w2.heap.size 9 i0 (.string ⟨#[]⟩) 1 16 Tryd.und51 hi hz0 hz1 hz2 rfl (by decide) (.slice a1 (rs.length + k) c1) (rs.length + k) (M.map Value.string) rfl ?e0 ⟨wr.heap.size, 0, none⟩ 1 1 [.string q.nm] rfl ?e1 (cell_one_new _ _ _) ?e3 ?e4 ?e5 ?e6 ?_)
          case e0 => exact ownk (owns_later HT.out.2.1 (blw_alloc (Below.refl _ _) _)) HL.out.2
          case e1 => rfl
          case e3 => intro u hu; simp at hu; rcases hu with rfl; rfl
          case e4 => unfold maxLen; omega
          case e5 => omega
          case e6 => simp; omega
          intro v' w7 hown hgrow _ hat
          obtain ⟨a7, d7, hv7⟩ := owns_slice hown
          subst hv7
          have hbt : Below wr.heap.size wr (wr.alloc (.cells #[.string q.nm] 9)) := blw_alloc (Below.refl _ _) _
          have HN7 : Hid (Two w7 w2.heap.size (.slice a rs.length c) (.slice a7 (rs.length + k + 1) d7) (kindsOf rs) (M ++ [q.nm])) := ((HT.out.later hbt).symm.add (by rw [HL.out.2]; exact hown) hgrow (by simpa using hat)).symm
          have HB7 : Hid (Below w2.heap.size w2 w7) := by
            have hq : Below w2.heap.size w2 (wr.alloc (.cells #[.string q.nm] 9)) := blw_trans HW.out hbt
            exact Below.grown hq hgrow hq.size (fun x hx => (World.ownsRow.lt HT.out.2.1 x hx).1)
          clear hown hgrow hat hbt HT HW hs4 c0
          go_wp2
          go_roundw
          case rel => exact ⟨k + 1, a7, d7, by omega, by go_num, rfl, by rw [HL.out.1]; exact HN7.out, HB7.out⟩
          case measure => simp [intOf]; omega
        · have hk : k = ts.length := by omega
          subst hk
          rw [List.take_length] at hTw
          have HT : Hid (Two wr w2.heap.size (.slice a rs.length c) (.slice a1 (rs.length + ts.length) c1) (kindsOf rs) (namesOf ts rs)) := hTw
          have HW : Hid (Below w2.heap.size w2 wr) := hW
          clear hTw hW hlt
          go_upto_region 14 with fail
          have HLN : Hid ((kindsOf rs).length ≤ 4000000 ∧ (namesOf ts rs).length ≤ 4000000) := ⟨by unfold kindsOf; rw [List.length_map]; omega, by unfold namesOf; rw [List.length_append, List.length_map, List.length_map]; omega⟩
          have HX0 : Hid (∀ W, Below wr.heap.size wr W → OwnBlk W (w.heap.size + 1) 31 4 ∧ Below w.heap.size w W ∧ TextsAt W (.slice a rs.length c) (kindsOf rs) ∧ TextsAt W (.slice a1 (rs.length + ts.length) c1) (namesOf ts rs)) := fun W hW => ⟨(HM.out W (blw_trans HW.out hW)).2.2.2.2.1, (HM.out W (blw_trans HW.out hW)).2.2.2.2.2, RowT.at_ (HT.out.later hW).1 HLN.out.1, RowT.at_ (HT.out.later hW).2.1 HLN.out.2⟩
          have HV : Hid (U = true ∧ VV = V ∧ NP = r.pre) := ⟨HG.out.1, HG.out.2.1, HG.out.2.2.1⟩
          have HD : Hid (K = uncKind rs r ∧ T = uncTeam ts rs r) := HG.out.2.2.2
          have hPw : w.heap.size ≤ wr.heap.size := (HX0.out wr (Below.refl _ _)).2.1.size
          go_cut [12] (fun s wx => ∃ P, s = .pointer (some ⟨P, 0, none⟩) ∧ ActAt wx P V r.kind r.team r.pre ∧ Below wr.heap.size wr wx ∧ wr.heap.size ≤ P)
          case first =>
            refine wp_region_any (by kernel_rfl) ?_
            refine gen_frame (R := fun a => wpAny _ _ _ _ _ _ a _) _ ?_
            intro a0 ha0
            have hsz0 : 74 < a0.tmps.size := by rw [ha0]; simp
            have f0 : a0.eval (.tmp 0) = .slice (some ⟨B, 0, none⟩) ts.length ts.length := by rw [ha0]; rfl
            have f1 : a0.eval (.tmp 1) = .slice (some ⟨Br, 0, none⟩) rs.length rs.length := by rw [ha0]; rfl
            have f5 : a0.eval (.tmp 5) = .pointer (some ⟨w.heap.size, 0, none⟩) := by rw [ha0]; rfl
            refine wpAny_inv (fun l a W => ∃ s12 s64 s65 s66 s67 s68 s69 s70 s71 s72 s73 s74 : Value, a = cq a0 s12 s64 s65 s66 s67 s68 s69 s70 s71 s72 s73 s74 ∧ (l.getD 0 false = true → s64 = .slice (some ⟨B, 0, none⟩) ts.length ts.length) ∧ (l.getD 1 false = true → s65 = .slice (some ⟨Br, 0, none⟩) rs.length rs.length) ∧ (l.getD 2 false = true → s66 = .agg #[.slice (some ⟨b, 0, none⟩) r.verbs.length r.verbs.length, .string r.kind, .string r.team, .string r.pre]) ∧ (l.getD 3 false = true → s67 = .int .i64 V) ∧ (l.getD 4 false = true → s68 = .pointer (some ⟨w.heap.size, 1, none⟩)) ∧ (l.getD 5 false = true → s69 = .string r.kind) ∧ (l.getD 6 false = true → s70 = .pointer (some ⟨w.heap.size, 2, none⟩)) ∧ (l.getD 7 false = true → s71 = .string r.team) ∧ (l.getD 8 false = true → s72 = .pointer (some ⟨w.heap.size, 3, none⟩)) ∧ (l.getD 9 false = true → s73 = .string r.pre) ∧ (l.getD 10 false = true → s74 = .agg #[.int .i64 V, .string r.kind, .string r.team, .string r.pre]) ∧ l.size = 13 ∧ Below wr.heap.size wr W ∧ ((l.getD 11 false = false ∧ l.getD 12 false = false) ∨ (l.getD 11 false = true ∧ l.getD 12 false = false ∧ ∃ P, s12 = .pointer (some ⟨P, 0, none⟩) ∧ wr.heap.size ≤ P ∧ OwnBlk W P 31 4) ∨ (l.getD 11 false = true ∧ l.getD 12 false = true ∧ ∃ P, s12 = .pointer (some ⟨P, 0, none⟩) ∧ wr.heap.size ≤ P ∧ ActAt W P V r.kind r.team r.pre))) ?_ ?_ _ _ _ _ ?_ ?_
            · rintro l a W i ⟨s12, s64, s65, s66, s67, s68, s69, s70, s71, s72, s73, s74, rfl, h0, h1, h2, h3, h4, h5, h6, h7, h8, h9, h10, hls, hB, hw⟩ hi
              obtain ⟨hun, o, ho, hall⟩ := mem_ready.1 hi
              have hlt : i < 13 := (Array.getElem?_eq_some_iff.1 ho).1
              have hbx := (HM.out W (blw_trans HW.out hB)).2.2.2.1
              have p0 : W.cell? ⟨w.heap.size, 0, none⟩ = some (.slice (some ⟨b, 0, none⟩) r.verbs.length r.verbs.length) := hbx.2 0
              have p1 : W.cell? ⟨w.heap.size, 1, none⟩ = some (.string r.kind) := hbx.2 1
              have p2 : W.cell? ⟨w.heap.size, 2, none⟩ = some (.string r.team) := hbx.2 2
              have p3 : W.cell? ⟨w.heap.size, 3, none⟩ = some (.string r.pre) := hbx.2 3
              have hcases : i = 0 ∨ i = 1 ∨ i = 2 ∨ i = 3 ∨ i = 4 ∨ i = 5 ∨ i = 6 ∨ i = 7 ∨ i = 8 ∨ i = 9 ∨ i = 10 ∨ i = 11 ∨ i = 12 := by omega
              rcases hcases with rfl | rfl | rfl | rfl | rfl | rfl | rfl | rfl | rfl | rfl | rfl | rfl | rfl
              · have ho1 := ho
                simp at ho
                subst ho
                refine wpOp_value (v := .slice (some ⟨B, 0, none⟩) ts.length ts.length) (w' := W) ho1 rfl ?_ ?_
                · simp [execOp, go_sem, cq_get0 _ _ _ _ _ _ _ _ _ _ _ _ _ _ f0]
                · show ∃ s12, _
                  rw [cq_put64]
                  exact ⟨s12, (.slice (some ⟨B, 0, none⟩) ts.length ts.length), s65, s66, s67, s68, s69, s70, s71, s72, s73, s74, rfl, fun _ => rfl, fun h => h1 ((set_get h).resolve_left (by decide)), fun h => h2 ((set_get h).resolve_left (by decide)), fun h => h3 ((set_get h).resolve_left (by decide)), fun h => h4 ((set_get h).resolve_left (by decide)), fun h => h5 ((set_get h).resolve_left (by decide)), fun h => h6 ((set_get h).resolve_left (by decide)), fun h => h7 ((set_get h).resolve_left (by decide)), fun h => h8 ((set_get h).resolve_left (by decide)), fun h => h9 ((set_get h).resolve_left (by decide)), fun h => h10 ((set_get h).resolve_left (by decide)), (by simpa using hls), hB, (by simpa only [getD_set_ne _ (show (0 : Nat) ≠ 11 by decide), getD_set_ne _ (show (0 : Nat) ≠ 12 by decide)] using hw)⟩
              · have ho1 := ho
                simp at ho
                subst ho
                refine wpOp_value (v := .slice (some ⟨Br, 0, none⟩) rs.length rs.length) (w' := W) ho1 rfl ?_ ?_
                · simp [execOp, go_sem, cq_get1 _ _ _ _ _ _ _ _ _ _ _ _ _ _ f1]
                · show ∃ s12, _
                  rw [cq_put65]
                  exact ⟨s12, s64, (.slice (some ⟨Br, 0, none⟩) rs.length rs.length), s66, s67, s68, s69, s70, s71, s72, s73, s74, rfl, fun h => h0 ((set_get h).resolve_left (by decide)), fun _ => rfl, fun h => h2 ((set_get h).resolve_left (by decide)), fun h => h3 ((set_get h).resolve_left (by decide)), fun h => h4 ((set_get h).resolve_left (by decide)), fun h => h5 ((set_get h).resolve_left (by decide)), fun h => h6 ((set_get h).resolve_left (by decide)), fun h => h7 ((set_get h).resolve_left (by decide)), fun h => h8 ((set_get h).resolve_left (by decide)), fun h => h9 ((set_get h).resolve_left (by decide)), fun h => h10 ((set_get h).resolve_left (by decide)), (by simpa using hls), hB, (by simpa only [getD_set_ne _ (show (1 : Nat) ≠ 11 by decide), getD_set_ne _ (show (1 : Nat) ≠ 12 by decide)] using hw)⟩
              · have ho1 := ho
                simp at ho
                subst ho
                refine wpOp_value (v := .agg #[.slice (some ⟨b, 0, none⟩) r.verbs.length r.verbs.length, .string r.kind, .string r.team, .string r.pre]) (w' := W) ho1 rfl ?_ ?_
                · simp [execOp, go_sem, cq_get5 _ _ _ _ _ _ _ _ _ _ _ _ _ _ f5, p0, p1, p2, p3]
                · show ∃ s12, _
                  rw [cq_put66]
                  exact ⟨s12, s64, s65, (.agg #[.slice (some ⟨b, 0, none⟩) r.verbs.length r.verbs.length, .string r.kind, .string r.team, .string r.pre]), s67, s68, s69, s70, s71, s72, s73, s74, rfl, fun h => h0 ((set_get h).resolve_left (by decide)), fun h => h1 ((set_get h).resolve_left (by decide)), fun _ => rfl, fun h => h3 ((set_get h).resolve_left (by decide)), fun h => h4 ((set_get h).resolve_left (by decide)), fun h => h5 ((set_get h).resolve_left (by decide)), fun h => h6 ((set_get h).resolve_left (by decide)), fun h => h7 ((set_get h).resolve_left (by decide)), fun h => h8 ((set_get h).resolve_left (by decide)), fun h => h9 ((set_get h).resolve_left (by decide)), fun h => h10 ((set_get h).resolve_left (by decide)), (by simpa using hls), hB, (by simpa only [getD_set_ne _ (show (2 : Nat) ≠ 11 by decide), getD_set_ne _ (show (2 : Nat) ≠ 12 by decide)] using hw)⟩
              · have ho1 := ho
                simp at ho
                subst ho
                have e0 := h0 (hall ⟨0, .data⟩ (by simp) rfl)
                subst e0
                have e1 := h1 (hall ⟨1, .data⟩ (by simp) rfl)
                subst e1
                have e2 := h2 (hall ⟨2, .data⟩ (by simp) rfl)
                subst e2
                refine wpOp_enter (f := 19) (args := #[.slice (some ⟨B, 0, none⟩) ts.length ts.length, .slice (some ⟨Br, 0, none⟩) rs.length rs.length, .agg #[.slice (some ⟨b, 0, none⟩) r.verbs.length r.verbs.length, .string r.kind, .string r.team, .string r.pre]]) ho1 rfl ?_ ?_
                · simp [go_sem, cq_get64 _ _ _ _ _ _ _ _ _ _ _ _ _ hsz0, cq_get65 _ _ _ _ _ _ _ _ _ _ _ _ _ hsz0, cq_get66 _ _ _ _ _ _ _ _ _ _ _ _ _ hsz0]
                · refine (l4Lacks B Br b ts rs r W (HM.out _ (blw_trans HW.out hB)).1 (HM.out _ (blw_trans HW.out hB)).2.1 (HM.out _ (blw_trans HW.out hB)).2.2.1).mono ?_
                  rintro e w6 ⟨rfl, hb6⟩
                  rw [← HAL.out.2]
                  refine ⟨_, rfl, ?_⟩
                  show ∃ s12, _
                  rw [cq_put67]
                  have hw6 : ((l.getD 11 false = false ∧ l.getD 12 false = false) ∨ (l.getD 11 false = true ∧ l.getD 12 false = false ∧ ∃ P, s12 = .pointer (some ⟨P, 0, none⟩) ∧ wr.heap.size ≤ P ∧ OwnBlk w6 P 31 4) ∨ (l.getD 11 false = true ∧ l.getD 12 false = true ∧ ∃ P, s12 = .pointer (some ⟨P, 0, none⟩) ∧ wr.heap.size ≤ P ∧ ActAt w6 P V r.kind r.team r.pre)) := by
                    rcases hw with hw | ⟨x1, x2, P, x3, x4, x5⟩ | ⟨x1, x2, P, x3, x4, x5⟩
                    · exact Or.inl hw
                    · exact Or.inr (Or.inl ⟨x1, x2, P, x3, x4, x5.later hb6⟩)
                    · exact Or.inr (Or.inr ⟨x1, x2, P, x3, x4, x5.later hb6⟩)
                  exact ⟨s12, (.slice (some ⟨B, 0, none⟩) ts.length ts.length), (.slice (some ⟨Br, 0, none⟩) rs.length rs.length), (.agg #[.slice (some ⟨b, 0, none⟩) r.verbs.length r.verbs.length, .string r.kind, .string r.team, .string r.pre]), (.int .i64 V), s68, s69, s70, s71, s72, s73, s74, rfl, fun _ => rfl, fun _ => rfl, fun _ => rfl, fun _ => rfl, fun h => h4 ((set_get h).resolve_left (by decide)), fun h => h5 ((set_get h).resolve_left (by decide)), fun h => h6 ((set_get h).resolve_left (by decide)), fun h => h7 ((set_get h).resolve_left (by decide)), fun h => h8 ((set_get h).resolve_left (by decide)), fun h => h9 ((set_get h).resolve_left (by decide)), fun h => h10 ((set_get h).resolve_left (by decide)), (by simpa using hls), blw_trans hB hb6, (by simpa only [getD_set_ne _ (show (3 : Nat) ≠ 11 by decide), getD_set_ne _ (show (3 : Nat) ≠ 12 by decide)] using hw6)⟩
              · have ho1 := ho
                simp at ho
                subst ho
                refine wpOp_value (v := .pointer (some ⟨w.heap.size, 1, none⟩)) (w' := W) ho1 rfl ?_ ?_
                · simp [execOp, go_sem, cq_get5 _ _ _ _ _ _ _ _ _ _ _ _ _ _ f5]
                · show ∃ s12, _
                  rw [cq_put68]
                  exact ⟨s12, s64, s65, s66, s67, (.pointer (some ⟨w.heap.size, 1, none⟩)), s69, s70, s71, s72, s73, s74, rfl, fun h => h0 ((set_get h).resolve_left (by decide)), fun h => h1 ((set_get h).resolve_left (by decide)), fun h => h2 ((set_get h).resolve_left (by decide)), fun h => h3 ((set_get h).resolve_left (by decide)), fun _ => rfl, fun h => h5 ((set_get h).resolve_left (by decide)), fun h => h6 ((set_get h).resolve_left (by decide)), fun h => h7 ((set_get h).resolve_left (by decide)), fun h => h8 ((set_get h).resolve_left (by decide)), fun h => h9 ((set_get h).resolve_left (by decide)), fun h => h10 ((set_get h).resolve_left (by decide)), (by simpa using hls), hB, (by simpa only [getD_set_ne _ (show (4 : Nat) ≠ 11 by decide), getD_set_ne _ (show (4 : Nat) ≠ 12 by decide)] using hw)⟩
              · have ho1 := ho
                simp at ho
                subst ho
                have e4 := h4 (hall ⟨4, .data⟩ (by simp) rfl)
                subst e4
                refine wpOp_value (v := .string r.kind) (w' := W) ho1 rfl ?_ ?_
                · simp [execOp, go_sem, cq_get68 _ _ _ _ _ _ _ _ _ _ _ _ _ hsz0, p1]
                · show ∃ s12, _
                  rw [cq_put69]
                  exact ⟨s12, s64, s65, s66, s67, (.pointer (some ⟨w.heap.size, 1, none⟩)), (.string r.kind), s70, s71, s72, s73, s74, rfl, fun h => h0 ((set_get h).resolve_left (by decide)), fun h => h1 ((set_get h).resolve_left (by decide)), fun h => h2 ((set_get h).resolve_left (by decide)), fun h => h3 ((set_get h).resolve_left (by decide)), fun _ => rfl, fun _ => rfl, fun h => h6 ((set_get h).resolve_left (by decide)), fun h => h7 ((set_get h).resolve_left (by decide)), fun h => h8 ((set_get h).resolve_left (by decide)), fun h => h9 ((set_get h).resolve_left (by decide)), fun h => h10 ((set_get h).resolve_left (by decide)), (by simpa using hls), hB, (by simpa only [getD_set_ne _ (show (5 : Nat) ≠ 11 by decide), getD_set_ne _ (show (5 : Nat) ≠ 12 by decide)] using hw)⟩
              · have ho1 := ho
                simp at ho
                subst ho
                refine wpOp_value (v := .pointer (some ⟨w.heap.size, 2, none⟩)) (w' := W) ho1 rfl ?_ ?_
                · simp [execOp, go_sem, cq_get5 _ _ _ _ _ _ _ _ _ _ _ _ _ _ f5]
                · show ∃ s12, _
                  rw [cq_put70]
                  exact ⟨s12, s64, s65, s66, s67, s68, s69, (.pointer (some ⟨w.heap.size, 2, none⟩)), s71, s72, s73, s74, rfl, fun h => h0 ((set_get h).resolve_left (by decide)), fun h => h1 ((set_get h).resolve_left (by decide)), fun h => h2 ((set_get h).resolve_left (by decide)), fun h => h3 ((set_get h).resolve_left (by decide)), fun h => h4 ((set_get h).resolve_left (by decide)), fun h => h5 ((set_get h).resolve_left (by decide)), fun _ => rfl, fun h => h7 ((set_get h).resolve_left (by decide)), fun h => h8 ((set_get h).resolve_left (by decide)), fun h => h9 ((set_get h).resolve_left (by decide)), fun h => h10 ((set_get h).resolve_left (by decide)), (by simpa using hls), hB, (by simpa only [getD_set_ne _ (show (6 : Nat) ≠ 11 by decide), getD_set_ne _ (show (6 : Nat) ≠ 12 by decide)] using hw)⟩
              · have ho1 := ho
                simp at ho
                subst ho
                have e6 := h6 (hall ⟨6, .data⟩ (by simp) rfl)
                subst e6
                refine wpOp_value (v := .string r.team) (w' := W) ho1 rfl ?_ ?_
                · simp [execOp, go_sem, cq_get70 _ _ _ _ _ _ _ _ _ _ _ _ _ hsz0, p2]
                · show ∃ s12, _
                  rw [cq_put71]
                  exact ⟨s12, s64, s65, s66, s67, s68, s69, (.pointer (some ⟨w.heap.size, 2, none⟩)), (.string r.team), s72, s73, s74, rfl, fun h => h0 ((set_get h).resolve_left (by decide)), fun h => h1 ((set_get h).resolve_left (by decide)), fun h => h2 ((set_get h).resolve_left (by decide)), fun h => h3 ((set_get h).resolve_left (by decide)), fun h => h4 ((set_get h).resolve_left (by decide)), fun h => h5 ((set_get h).resolve_left (by decide)), fun _ => rfl, fun _ => rfl, fun h => h8 ((set_get h).resolve_left (by decide)), fun h => h9 ((set_get h).resolve_left (by decide)), fun h => h10 ((set_get h).resolve_left (by decide)), (by simpa using hls), hB, (by simpa only [getD_set_ne _ (show (7 : Nat) ≠ 11 by decide), getD_set_ne _ (show (7 : Nat) ≠ 12 by decide)] using hw)⟩
              · have ho1 := ho
                simp at ho
                subst ho
                refine wpOp_value (v := .pointer (some ⟨w.heap.size, 3, none⟩)) (w' := W) ho1 rfl ?_ ?_
                · simp [execOp, go_sem, cq_get5 _ _ _ _ _ _ _ _ _ _ _ _ _ _ f5]
                · show ∃ s12, _
                  rw [cq_put72]
                  exact ⟨s12, s64, s65, s66, s67, s68, s69, s70, s71, (.pointer (some ⟨w.heap.size, 3, none⟩)), s73, s74, rfl, fun h => h0 ((set_get h).resolve_left (by decide)), fun h => h1 ((set_get h).resolve_left (by decide)), fun h => h2 ((set_get h).resolve_left (by decide)), fun h => h3 ((set_get h).resolve_left (by decide)), fun h => h4 ((set_get h).resolve_left (by decide)), fun h => h5 ((set_get h).resolve_left (by decide)), fun h => h6 ((set_get h).resolve_left (by decide)), fun h => h7 ((set_get h).resolve_left (by decide)), fun _ => rfl, fun h => h9 ((set_get h).resolve_left (by decide)), fun h => h10 ((set_get h).resolve_left (by decide)), (by simpa using hls), hB, (by simpa only [getD_set_ne _ (show (8 : Nat) ≠ 11 by decide), getD_set_ne _ (show (8 : Nat) ≠ 12 by decide)] using hw)⟩
              · have ho1 := ho
                simp at ho
                subst ho
                have e8 := h8 (hall ⟨8, .data⟩ (by simp) rfl)
                subst e8
                refine wpOp_value (v := .string r.pre) (w' := W) ho1 rfl ?_ ?_
                · simp [execOp, go_sem, cq_get72 _ _ _ _ _ _ _ _ _ _ _ _ _ hsz0, p3]
                · show ∃ s12, _
                  rw [cq_put73]
                  exact ⟨s12, s64, s65, s66, s67, s68, s69, s70, s71, (.pointer (some ⟨w.heap.size, 3, none⟩)), (.string r.pre), s74, rfl, fun h => h0 ((set_get h).resolve_left (by decide)), fun h => h1 ((set_get h).resolve_left (by decide)), fun h => h2 ((set_get h).resolve_left (by decide)), fun h => h3 ((set_get h).resolve_left (by decide)), fun h => h4 ((set_get h).resolve_left (by decide)), fun h => h5 ((set_get h).resolve_left (by decide)), fun h => h6 ((set_get h).resolve_left (by decide)), fun h => h7 ((set_get h).resolve_left (by decide)), fun _ => rfl, fun _ => rfl, fun h => h10 ((set_get h).resolve_left (by decide)), (by simpa using hls), hB, (by simpa only [getD_set_ne _ (show (9 : Nat) ≠ 11 by decide), getD_set_ne _ (show (9 : Nat) ≠ 12 by decide)] using hw)⟩
              · have ho1 := ho
                simp at ho
                subst ho
                have e3 := h3 (hall ⟨3, .data⟩ (by simp) rfl)
                subst e3
                have e5 := h5 (hall ⟨5, .data⟩ (by simp) rfl)
                subst e5
                have e7 := h7 (hall ⟨7, .data⟩ (by simp) rfl)
                subst e7
                have e9 := h9 (hall ⟨9, .data⟩ (by simp) rfl)
                subst e9
                refine wpOp_value (v := .agg #[.int .i64 V, .string r.kind, .string r.team, .string r.pre]) (w' := W) ho1 rfl ?_ ?_
                · simp [execOp, go_sem, cq_get67 _ _ _ _ _ _ _ _ _ _ _ _ _ hsz0, cq_get69 _ _ _ _ _ _ _ _ _ _ _ _ _ hsz0, cq_get71 _ _ _ _ _ _ _ _ _ _ _ _ _ hsz0, cq_get73 _ _ _ _ _ _ _ _ _ _ _ _ _ hsz0]
                · show ∃ s12, _
                  rw [cq_put74]
                  exact ⟨s12, s64, s65, s66, (.int .i64 V), s68, (.string r.kind), s70, (.string r.team), s72, (.string r.pre), (.agg #[.int .i64 V, .string r.kind, .string r.team, .string r.pre]), rfl, fun h => h0 ((set_get h).resolve_left (by decide)), fun h => h1 ((set_get h).resolve_left (by decide)), fun h => h2 ((set_get h).resolve_left (by decide)), fun _ => rfl, fun h => h4 ((set_get h).resolve_left (by decide)), fun _ => rfl, fun h => h6 ((set_get h).resolve_left (by decide)), fun _ => rfl, fun h => h8 ((set_get h).resolve_left (by decide)), fun _ => rfl, fun _ => rfl, (by simpa using hls), hB, (by simpa only [getD_set_ne _ (show (10 : Nat) ≠ 11 by decide), getD_set_ne _ (show (10 : Nat) ≠ 12 by decide)] using hw)⟩
              · have ho1 := ho
                simp at ho
                subst ho
                rcases hw with ⟨_, h12f⟩ | ⟨h11f, _⟩ | ⟨h11f, _⟩
                · refine wpOp_value (v := .pointer (some ⟨W.heap.size, 0, none⟩)) (w' := W.alloc (.cells #[.int .i64 0, .string ⟨#[]⟩, .string ⟨#[]⟩, .string ⟨#[]⟩] 31)) ho1 rfl ?_ ?_
                  · simp [execOp, go_sem]
                  · show ∃ s12, _
                    rw [cq_put12]
                    exact ⟨(.pointer (some ⟨W.heap.size, 0, none⟩)), s64, s65, s66, s67, s68, s69, s70, s71, s72, s73, s74, rfl, fun h => h0 ((set_get h).resolve_left (by decide)), fun h => h1 ((set_get h).resolve_left (by decide)), fun h => h2 ((set_get h).resolve_left (by decide)), fun h => h3 ((set_get h).resolve_left (by decide)), fun h => h4 ((set_get h).resolve_left (by decide)), fun h => h5 ((set_get h).resolve_left (by decide)), fun h => h6 ((set_get h).resolve_left (by decide)), fun h => h7 ((set_get h).resolve_left (by decide)), fun h => h8 ((set_get h).resolve_left (by decide)), fun h => h9 ((set_get h).resolve_left (by decide)), fun h => h10 ((set_get h).resolve_left (by decide)), (by simpa using hls), blw_alloc hB _, Or.inr (Or.inl ⟨set_here hun, by rw [getD_set_ne _ (show (11 : Nat) ≠ 12 by decide)]; exact h12f, W.heap.size, rfl, hB.size, OwnBlk.alloc W _ 31 4 rfl⟩)⟩
                · rw [getD_flip hun] at h11f; cases h11f
                · rw [getD_flip hun] at h11f; cases h11f
              · have ho1 := ho
                simp at ho
                subst ho
                have e10 := h10 (hall ⟨10, .data⟩ (by simp) rfl)
                subst e10
                rcases hw with ⟨h11f, _⟩ | ⟨h11t, _, P, rfl, hP, hO⟩ | ⟨_, h12t, _⟩
                · have := hall ⟨11, .data⟩ (by simp) rfl; rw [h11f] at this; cases this
                · have hfz := hO.frozen
                  obtain ⟨y0, o0⟩ := hO.cell 0 (by omega)
                  obtain ⟨y1, o1⟩ := hO.cell 1 (by omega)
                  obtain ⟨y2, o2⟩ := hO.cell 2 (by omega)
                  obtain ⟨y3, o3⟩ := hO.cell 3 (by omega)
                  refine wpOp_skip (w' := ((((W.setCell ⟨P, 0, none⟩ (.int .i64 V)).setCell ⟨P, 1, none⟩ (.string r.kind)).setCell ⟨P, 2, none⟩ (.string r.team)).setCell ⟨P, 3, none⟩ (.string r.pre))) ho1 rfl ?_ ?_
                  · simp [execOp, go_sem, cq_get12 _ _ _ _ _ _ _ _ _ _ _ _ _ hsz0, cq_get74 _ _ _ _ _ _ _ _ _ _ _ _ _ hsz0, hfz, o0, o1, o2, o3]
                  · show ∃ s12, _
                    rw [put_none]
                    exact ⟨(.pointer (some ⟨P, 0, none⟩)), s64, s65, s66, s67, s68, s69, s70, s71, s72, s73, (.agg #[.int .i64 V, .string r.kind, .string r.team, .string r.pre]), rfl, fun h => h0 ((set_get h).resolve_left (by decide)), fun h => h1 ((set_get h).resolve_left (by decide)), fun h => h2 ((set_get h).resolve_left (by decide)), fun h => h3 ((set_get h).resolve_left (by decide)), fun h => h4 ((set_get h).resolve_left (by decide)), fun h => h5 ((set_get h).resolve_left (by decide)), fun h => h6 ((set_get h).resolve_left (by decide)), fun h => h7 ((set_get h).resolve_left (by decide)), fun h => h8 ((set_get h).resolve_left (by decide)), fun h => h9 ((set_get h).resolve_left (by decide)), fun _ => rfl, (by simpa using hls), four_below hB hP _ _ _ _, Or.inr (Or.inr ⟨by rw [getD_set_ne _ (show (12 : Nat) ≠ 11 by decide)]; exact h11t, set_here hun, P, rfl, hP, ActAt.four hO V r.kind r.team r.pre⟩)⟩
                · rw [getD_flip hun] at h12t; cases h12t
            · rintro l a W ⟨s12, s64, s65, s66, s67, s68, s69, s70, s71, s72, s73, s74, rfl, h0, h1, h2, h3, h4, h5, h6, h7, h8, h9, h10, hls, hB, hw⟩ hr
              have L0 : l.getD 0 false = true := all_up hr (by omega) rfl (by intro e he _; simp at he)
              have L1 : l.getD 1 false = true := all_up hr (by omega) rfl (by intro e he _; simp at he)
              have L2 : l.getD 2 false = true := all_up hr (by omega) rfl (by intro e he _; simp at he)
              have L3 : l.getD 3 false = true := all_up hr (by omega) rfl (by intro e he _; simp at he; rcases he with rfl | rfl | rfl <;> assumption)
              have L4 : l.getD 4 false = true := all_up hr (by omega) rfl (by intro e he _; simp at he)
              have L5 : l.getD 5 false = true := all_up hr (by omega) rfl (by intro e he _; simp at he; subst he; assumption)
              have L6 : l.getD 6 false = true := all_up hr (by omega) rfl (by intro e he _; simp at he)
              have L7 : l.getD 7 false = true := all_up hr (by omega) rfl (by intro e he _; simp at he; subst he; assumption)
              have L8 : l.getD 8 false = true := all_up hr (by omega) rfl (by intro e he _; simp at he)
              have L9 : l.getD 9 false = true := all_up hr (by omega) rfl (by intro e he _; simp at he; subst he; assumption)
              have L10 : l.getD 10 false = true := all_up hr (by omega) rfl (by intro e he _; simp at he; rcases he with rfl | rfl | rfl | rfl <;> assumption)
              have L11 : l.getD 11 false = true := all_up hr (by omega) rfl (by intro e he _; simp at he)
              have L12 : l.getD 12 false = true := all_up hr (by omega) rfl (by intro e he _; simp at he; rcases he with rfl | rfl | rfl | rfl | rfl | rfl | rfl | rfl | rfl | rfl | rfl | rfl | rfl | rfl | rfl <;> assumption)
              obtain rfl := h0 L0
              obtain rfl := h1 L1
              obtain rfl := h2 L2
              obtain rfl := h3 L3
              obtain rfl := h4 L4
              obtain rfl := h5 L5
              obtain rfl := h6 L6
              obtain rfl := h7 L7
              obtain rfl := h8 L8
              obtain rfl := h9 L9
              obtain rfl := h10 L10
              rcases hw with ⟨h11f, _⟩ | ⟨_, h12f, _⟩ | ⟨_, _, P, rfl, hP, hAct⟩
              · rw [L11] at h11f; cases h11f
              · rw [L12] at h12f; cases h12f
              · subst ha0
                simp [cq, Act.put]
                go_wp2_with fail
                go_meet
                exact ⟨P, rfl, hAct, hB, hP⟩
            · refine ⟨undef, undef, undef, undef, undef, undef, undef, undef, undef, undef, undef, undef, by rw [ha0]; kernel_rfl, ?_⟩
              exact ⟨fun h => absurd h Bool.false_ne_true, fun h => absurd h Bool.false_ne_true, fun h => absurd h Bool.false_ne_true, fun h => absurd h Bool.false_ne_true, fun h => absurd h Bool.false_ne_true, fun h => absurd h Bool.false_ne_true, fun h => absurd h Bool.false_ne_true, fun h => absurd h Bool.false_ne_true, fun h => absurd h Bool.false_ne_true, fun h => absurd h Bool.false_ne_true, fun h => absurd h Bool.false_ne_true, rfl, Below.drew (Below.refl _ _), Or.inl ⟨rfl, rfl⟩⟩
            · exact Nat.le_of_eq (by kernel_rfl)
          case rest =>
            obtain ⟨P, rfl, hAct, hb6, hP⟩ := hcut
            rename World => w6
            have HS : Hid (ActAt w6 P V r.kind r.team r.pre ∧ Below wr.heap.size wr w6) := ⟨hAct, hb6⟩
            clear hAct hb6
            have k1 := HS.out.1.c1
            cases hk : r.kind.toList.isEmpty
            · have HKK : Hid (K = r.kind) := by show K = _; rw [HD.out.1, uncKind, hk]; rfl
              go_upto_region 17 with fail
              clear hk k1
              have t2 := HS.out.1.c2
              cases ht : r.team.toList.isEmpty
              · have HTT : Hid (T = r.team) := by show T = _; rw [HD.out.2, uncTeam, ht]; rfl
                go_upto_region 19 with fail
                clear ht t2
                obtain ⟨a0, a1, a2, a3⟩ : w6.cell? ⟨P, 0, none⟩ = some (.int .i64 V) ∧ w6.cell? ⟨P, 1, none⟩ = some (.string r.kind) ∧ w6.cell? ⟨P, 2, none⟩ = some (.string r.team) ∧ w6.cell? ⟨P, 3, none⟩ = some (.string r.pre) := ⟨HS.out.1.c0, HS.out.1.c1, HS.out.1.c2, HS.out.1.c3⟩
                have hO := (HX0.out w6 HS.out.2).1
                have hBw := (HX0.out w6 HS.out.2).2.1
                have hfz := hO.frozen
                obtain ⟨y0, o0⟩ := hO.cell 0 (by omega)
                obtain ⟨y1, o1⟩ := hO.cell 1 (by omega)
                obtain ⟨y2, o2⟩ := hO.cell 2 (by omega)
                obtain ⟨y3, o3⟩ := hO.cell 3 (by omega)
                go_wp2
                obtain ⟨r0, r1, r2, r3⟩ := four_puts hO (.int .i64 V) (.string r.kind) (.string r.team) (.string r.pre)
                refine bodyPost_ret (v := .tuple #[.agg #[.int .i64 V, .string r.kind, .string r.team, .string r.pre], .bool true]) (by simp only [results, Tryd.results7]; simp [go_sem, r0, r1, r2, r3]) rfl ⟨ret_unc HV.out.1.symm HV.out.2.1.symm (by rw [HKK.out]) (by rw [HTT.out]) HV.out.2.2.symm, ?_⟩
                exact four_below hBw (by omega) _ _ _ _
              · have HTT : Hid (T = fresh ⟨#[116]⟩ (namesOf ts rs)) := by show T = _; rw [HD.out.2, uncTeam, ht]; rfl
                have HX : Hid (Calls Tryd.prog 20 #[.string ⟨#[116]⟩, .slice a1 (rs.length + ts.length) c1] w6 fun e w' => e = .returned (.string (fresh ⟨#[116]⟩ (namesOf ts rs))) ∧ Below w6.heap.size w6 w') := l4New ⟨#[116]⟩ a1 (rs.length + ts.length) c1 (namesOf ts rs) w6 (by decide) HLN.out.2 (HX0.out _ HS.out.2).2.2.2
                go_wp2_with fail
                clear ht
                refine HX.out.mono ?_
                rintro e w9 ⟨rfl, hb9⟩
                obtain ⟨G, hG⟩ : ∃ G, G = fresh ⟨#[116]⟩ (namesOf ts rs) := ⟨_, rfl⟩
                rw [← hG] at HTT ⊢
                have hA9 := HS.out.1.later hb9
                have hB9 : Below wr.heap.size wr w9 := blw_trans HS.out.2 hb9
                obtain ⟨wa, hwa⟩ : ∃ wa, wa = w9.setCell ⟨P, 2, none⟩ (.string G) := ⟨_, rfl⟩
                have HSN : Hid (ActAt wa P V r.kind G r.pre ∧ Below wr.heap.size wr wa) := by rw [hwa]; exact ⟨hA9.put2 G, Below.setCell hB9 (p := ⟨P, 2, none⟩) hP _⟩
                have hfz := hA9.own.frozen
                have t3 := hA9.c2
                clear hG HX hb9 HS t2 hA9 hB9
                go_upto_region 19 with fail
                rw [← hwa]
                clear hwa hfz t3
                have HS : Hid (ActAt wa P V r.kind G r.pre ∧ Below wr.heap.size wr wa) := HSN.out
                obtain ⟨a0, a1, a2, a3⟩ : wa.cell? ⟨P, 0, none⟩ = some (.int .i64 V) ∧ wa.cell? ⟨P, 1, none⟩ = some (.string r.kind) ∧ wa.cell? ⟨P, 2, none⟩ = some (.string G) ∧ wa.cell? ⟨P, 3, none⟩ = some (.string r.pre) := ⟨HS.out.1.c0, HS.out.1.c1, HS.out.1.c2, HS.out.1.c3⟩
                have hO := (HX0.out wa HS.out.2).1
                have hBw := (HX0.out wa HS.out.2).2.1
                have hfz := hO.frozen
                obtain ⟨y0, o0⟩ := hO.cell 0 (by omega)
                obtain ⟨y1, o1⟩ := hO.cell 1 (by omega)
                obtain ⟨y2, o2⟩ := hO.cell 2 (by omega)
                obtain ⟨y3, o3⟩ := hO.cell 3 (by omega)
                go_wp2
                obtain ⟨r0, r1, r2, r3⟩ := four_puts hO (.int .i64 V) (.string r.kind) (.string G) (.string r.pre)
                refine bodyPost_ret (v := .tuple #[.agg #[.int .i64 V, .string r.kind, .string G, .string r.pre], .bool true]) (by simp only [results, Tryd.results7]; simp [go_sem, r0, r1, r2, r3]) rfl ⟨ret_unc HV.out.1.symm HV.out.2.1.symm (by rw [HKK.out]) (by rw [HTT.out]) HV.out.2.2.symm, ?_⟩
                exact four_below hBw (by omega) _ _ _ _
            · have HKK : Hid (K = fresh ⟨#[107]⟩ (kindsOf rs)) := by show K = _; rw [HD.out.1, uncKind, hk]; rfl
              have HX : Hid (Calls Tryd.prog 20 #[.string ⟨#[107]⟩, .slice a rs.length c] w6 fun e w' => e = .returned (.string (fresh ⟨#[107]⟩ (kindsOf rs))) ∧ Below w6.heap.size w6 w') := l4New ⟨#[107]⟩ a rs.length c (kindsOf rs) w6 (by decide) HLN.out.1 (HX0.out _ HS.out.2).2.2.1
              go_wp2_with fail
              clear hk
              refine HX.out.mono ?_
              rintro e w7 ⟨rfl, hb7⟩
              obtain ⟨F, hF⟩ : ∃ F, F = fresh ⟨#[107]⟩ (kindsOf rs) := ⟨_, rfl⟩
              rw [← hF] at HKK ⊢
              have hA7 := HS.out.1.later hb7
              have hB7 : Below wr.heap.size wr w7 := blw_trans HS.out.2 hb7
              obtain ⟨w8, hw8⟩ : ∃ w8, w8 = w7.setCell ⟨P, 1, none⟩ (.string F) := ⟨_, rfl⟩
              have HSN : Hid (ActAt w8 P V F r.team r.pre ∧ Below wr.heap.size wr w8) := by rw [hw8]; exact ⟨hA7.put1 F, Below.setCell hB7 (p := ⟨P, 1, none⟩) hP _⟩
              have hfz := hA7.own.frozen
              have t1 := hA7.c1
              clear hF HX hb7 HS k1 hA7 hB7
              go_upto_region 17 with fail
              rw [← hw8]
              clear hw8 hfz t1
              have HS : Hid (ActAt w8 P V F r.team r.pre ∧ Below wr.heap.size wr w8) := HSN.out
              clear HSN
              have t2 := HS.out.1.c2
              cases ht : r.team.toList.isEmpty
              · have HTT : Hid (T = r.team) := by show T = _; rw [HD.out.2, uncTeam, ht]; rfl
                go_upto_region 19 with fail
                clear ht t2
                obtain ⟨a0, a1, a2, a3⟩ : w8.cell? ⟨P, 0, none⟩ = some (.int .i64 V) ∧ w8.cell? ⟨P, 1, none⟩ = some (.string F) ∧ w8.cell? ⟨P, 2, none⟩ = some (.string r.team) ∧ w8.cell? ⟨P, 3, none⟩ = some (.string r.pre) := ⟨HS.out.1.c0, HS.out.1.c1, HS.out.1.c2, HS.out.1.c3⟩
                have hO := (HX0.out w8 HS.out.2).1
                have hBw := (HX0.out w8 HS.out.2).2.1
                have hfz := hO.frozen
                obtain ⟨y0, o0⟩ := hO.cell 0 (by omega)
                obtain ⟨y1, o1⟩ := hO.cell 1 (by omega)
                obtain ⟨y2, o2⟩ := hO.cell 2 (by omega)
                obtain ⟨y3, o3⟩ := hO.cell 3 (by omega)
                go_wp2
                obtain ⟨r0, r1, r2, r3⟩ := four_puts hO (.int .i64 V) (.string F) (.string r.team) (.string r.pre)
                refine bodyPost_ret (v := .tuple #[.agg #[.int .i64 V, .string F, .string r.team, .string r.pre], .bool true]) (by simp only [results, Tryd.results7]; simp [go_sem, r0, r1, r2, r3]) rfl ⟨ret_unc HV.out.1.symm HV.out.2.1.symm (by rw [HKK.out]) (by rw [HTT.out]) HV.out.2.2.symm, ?_⟩
                exact four_below hBw (by omega) _ _ _ _
              · have HTT : Hid (T = fresh ⟨#[116]⟩ (namesOf ts rs)) := by show T = _; rw [HD.out.2, uncTeam, ht]; rfl
                have HX : Hid (Calls Tryd.prog 20 #[.string ⟨#[116]⟩, .slice a1 (rs.length + ts.length) c1] w8 fun e w' => e = .returned (.string (fresh ⟨#[116]⟩ (namesOf ts rs))) ∧ Below w8.heap.size w8 w') := l4New ⟨#[116]⟩ a1 (rs.length + ts.length) c1 (namesOf ts rs) w8 (by decide) HLN.out.2 (HX0.out _ HS.out.2).2.2.2
                go_wp2_with fail
                clear ht
                refine HX.out.mono ?_
                rintro e w9 ⟨rfl, hb9⟩
                obtain ⟨G, hG⟩ : ∃ G, G = fresh ⟨#[116]⟩ (namesOf ts rs) := ⟨_, rfl⟩
                rw [← hG] at HTT ⊢
                have hA9 := HS.out.1.later hb9
                have hB9 : Below wr.heap.size wr w9 := blw_trans HS.out.2 hb9
                obtain ⟨wa, hwa⟩ : ∃ wa, wa = w9.setCell ⟨P, 2, none⟩ (.string G) := ⟨_, rfl⟩
                have HSN : Hid (ActAt wa P V F G r.pre ∧ Below wr.heap.size wr wa) := by rw [hwa]; exact ⟨hA9.put2 G, Below.setCell hB9 (p := ⟨P, 2, none⟩) hP _⟩
                have hfz := hA9.own.frozen
                have t3 := hA9.c2
                clear hG HX hb9 HS t2 hA9 hB9
                go_upto_region 19 with fail
                rw [← hwa]
                clear hwa hfz t3
                have HS : Hid (ActAt wa P V F G r.pre ∧ Below wr.heap.size wr wa) := HSN.out
                obtain ⟨a0, a1, a2, a3⟩ : wa.cell? ⟨P, 0, none⟩ = some (.int .i64 V) ∧ wa.cell? ⟨P, 1, none⟩ = some (.string F) ∧ wa.cell? ⟨P, 2, none⟩ = some (.string G) ∧ wa.cell? ⟨P, 3, none⟩ = some (.string r.pre) := ⟨HS.out.1.c0, HS.out.1.c1, HS.out.1.c2, HS.out.1.c3⟩
                have hO := (HX0.out wa HS.out.2).1
                have hBw := (HX0.out wa HS.out.2).2.1
                have hfz := hO.frozen
                obtain ⟨y0, o0⟩ := hO.cell 0 (by omega)
                obtain ⟨y1, o1⟩ := hO.cell 1 (by omega)
                obtain ⟨y2, o2⟩ := hO.cell 2 (by omega)
                obtain ⟨y3, o3⟩ := hO.cell 3 (by omega)
                go_wp2
                obtain ⟨r0, r1, r2, r3⟩ := four_puts hO (.int .i64 V) (.string F) (.string G) (.string r.pre)
                refine bodyPost_ret (v := .tuple #[.agg #[.int .i64 V, .string F, .string G, .string r.pre], .bool true]) (by simp only [results, Tryd.results7]; simp [go_sem, r0, r1, r2, r3]) rfl ⟨ret_unc HV.out.1.symm HV.out.2.1.symm (by rw [HKK.out]) (by rw [HTT.out]) HV.out.2.2.symm, ?_⟩
                exact four_below hBw (by omega) _ _ _ _

end Go.Proofs.YtikfcnmhfoknlaaDoor
