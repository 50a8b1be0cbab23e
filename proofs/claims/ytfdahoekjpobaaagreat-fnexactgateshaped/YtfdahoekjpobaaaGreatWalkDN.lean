/-
  The row by names, with where it lies.
-/
import Derived.Test.YtfdahoekjpobaaaGreatWalkMN
namespace Go.Proofs.YtfdahoekjpobaaaGreat
open Go.RowKit Go.Deep

set_option maxRecDepth 8000 in
set_option maxHeartbeats 8000000 in
theorem l3RowO (ss : List Shp) (s : Shp) (fb mb : Nat) (ms : List Mnd) (w : World) (h : FldsIn w fb s.fields) (hm : MndsIn w mb ms) (hfo : fieldsOk ss s.fields = true) (hf : ∀ m ∈ ms, ofKind s.kind m = true → found s.fields m) :
    Calls Tryz.prog 41 #[.agg #[.string s.kind, .slice (some ⟨fb, 0, none⟩) s.fields.length s.fields.length], .slice (some ⟨mb, 0, none⟩) ms.length ms.length] w fun e w' =>
      (∃ g c, e = .returned (.slice (some ⟨g, 0, none⟩) (rowG (rdM s.fields ms s.kind) s.fields.length s.fields.length).length c) ∧ w.heap.size ≤ g ∧ NamesAt w' (.slice (some ⟨g, 0, none⟩) (rowG (rdM s.fields ms s.kind) s.fields.length s.fields.length).length c) ((rowG (rdM s.fields ms s.kind) s.fields.length s.fields.length).map (nmAt s.fields))) ∧ Below w.heap.size w w' := by
  have hl := hm.len
  have hn6 := fields_few hfo
  have HA : Hid (FldsIn w fb s.fields ∧ MndsIn w mb ms ∧ fieldsOk ss s.fields = true ∧ ∀ m ∈ ms, ofKind s.kind m = true → found s.fields m) := ⟨h, hm, hfo, hf⟩
  obtain ⟨i0, hi, hz0, hz1, hz2⟩ := info_parts Tryz.info9
  clear h hm hfo hf
  obtain ⟨rd, hrd⟩ : ∃ rd, rd = rdM s.fields ms s.kind := ⟨_, rfl⟩
  obtain ⟨fs, hfs⟩ : ∃ fs, fs = s.fields := ⟨_, rfl⟩
  have HRD : Hid (rd = rdM s.fields ms s.kind) := hrd
  rw [← hrd, ← hfs]
  rw [← hfs] at hn6 HA HRD
  clear hrd hfs
  obtain ⟨n, hn⟩ : ∃ n, n = fs.length := ⟨_, rfl⟩
  rw [← hn]
  rw [← hn] at hn6
  have HNn : Hid (n = fs.length) := hn
  clear hn
  obtain ⟨wb, hwb⟩ : ∃ wb, wb = w.alloc (.cells #[.string s.kind, .slice (some ⟨fb, 0, none⟩) n n] 56) := ⟨_, rfl⟩
  have HB0 : Hid (Below w.heap.size w wb) := by show Below _ _ _; rw [hwb]; exact blw_alloc (Below.refl _ _) _
  have HK : Hid (wb.heap.size = w.heap.size + 1 ∧ wb.cell? ⟨w.heap.size, 0, none⟩ = some (.string s.kind) ∧ wb.cell? ⟨w.heap.size, 1, none⟩ = some (.slice (some ⟨fb, 0, none⟩) n n)) := by show _ ∧ _ ∧ _; rw [hwb]; exact ⟨by simp, by simp, by simp⟩
  go_enter Tryz.func41, Tryz.ntmps41
  go_upto_region 1 with fail
  rw [← hwb]
  clear hwb
  go_wp2
  go_loopw [5, 6] (fun v i wr => ∃ (j : Nat) (a : Option Addr) (c : Nat), j ≤ n ∧ i = .int .i64 j ∧ v = .slice a (rowG rd n j).length c ∧ NamesOwn wr wb.heap.size v ((rowG rd n j).map (nmAt fs)) ∧ Below wb.heap.size wb wr) (fun _ i _ => n - (intOf i).toNat)
  case atStart => exact ⟨0, some ⟨wb.heap.size, 0, none⟩, 0, Nat.zero_le _, rfl, rfl, NamesOwn.start wb _ (Nat.le_refl _), blw_alloc (Below.refl _ _) _⟩
  case round =>
    obtain ⟨j, a, c, hj, rfl, rfl, hO, hW⟩ := hrel
    obtain ⟨row, hrow⟩ : ∃ row, row = rowG rd n j := ⟨_, rfl⟩
    rw [← hrow] at hO ⊢
    have HO : Hid (NamesOwn wr wb.heap.size (.slice a row.length c) (row.map (nmAt fs))) := hO
    have HW : Hid (Below wb.heap.size wb wr) := hW
    have HRow : Hid (row = rowG rd n j) := hrow
    have HRl : Hid (row.length ≤ j) := by show row.length ≤ j; rw [hrow]; exact rowG_le rd n j
    have hs1 : w.heap.size < wr.heap.size := by have := hW.size; have := HK.out.1; omega
    have k0 : wr.cell? ⟨w.heap.size, 0, none⟩ = some (.string s.kind) := (hW.cell (p := ⟨w.heap.size, 0, none⟩) (by have := HK.out.1; show w.heap.size < _; omega)).trans HK.out.2.1
    have k1 : wr.cell? ⟨w.heap.size, 1, none⟩ = some (.slice (some ⟨fb, 0, none⟩) n n) := (hW.cell (p := ⟨w.heap.size, 1, none⟩) (by have := HK.out.1; show w.heap.size < _; omega)).trans HK.out.2.2
    clear hO hW hrow
    by_cases hlt : j < n
    · go_wp2
      clear k0 k1 hs1
      go_loopw [5, 7] (fun v i wq => v = .slice a row.length c ∧ ∃ q : Nat, q ≤ n ∧ i = .int .i64 q ∧ q ≤ nextG rd n row ∧ Below wr.heap.size wr wq) (fun _ i _ => n - (intOf i).toNat)
      case atStart => exact ⟨rfl, 0, Nat.zero_le _, rfl, Nat.zero_le _, Below.refl _ _⟩
      case round =>
        obtain ⟨rfl, q, hq, rfl, hno, hWq⟩ := hrel
        rename World => wq
        have HN : Hid (q ≤ nextG rd n row) := hno
        have HWq : Hid (Below wr.heap.size wr wq) := hWq
        have HWb : Hid (Below wb.heap.size wb wq) := blw_trans HW.out hWq
        have hs1 : w.heap.size < wq.heap.size := by have := HWb.out.size; have := HK.out.1; omega
        have k0 : wq.cell? ⟨w.heap.size, 0, none⟩ = some (.string s.kind) := (HWb.out.cell (p := ⟨w.heap.size, 0, none⟩) (by have := HK.out.1; show w.heap.size < _; omega)).trans HK.out.2.1
        have k1 : wq.cell? ⟨w.heap.size, 1, none⟩ = some (.slice (some ⟨fb, 0, none⟩) n n) := (HWb.out.cell (p := ⟨w.heap.size, 1, none⟩) (by have := HK.out.1; show w.heap.size < _; omega)).trans HK.out.2.2
        clear hno hWq
        by_cases hqn : q < n
        · obtain ⟨f, hff⟩ : ∃ f, f = fs.getD q Fld.none := ⟨_, rfl⟩
          obtain ⟨b, _, hfi⟩ := (HA.out.1.later (blw_trans HB0.out HWb.out)).arg (by rw [← HNn.out]; exact hqn) hff
          have c0 := hfi.c0
          have hfb : fb < wq.heap.size := (HA.out.1.later (blw_trans HB0.out HWb.out)).lt
          have HRg : Hid ((!Pl.has (row.map (nmAt fs)) f.nm && readyN ms s.kind f.nm (row.map (nmAt fs))) = readyG rd row q) := by
            have := ready_at HA.out.2.2.1 ms s.kind HA.out.2.2.2 (row := row) (fun p hp => by rw [HRow.out] at hp; rw [← HNn.out]; exact rowG_lt rd n j p hp) (i := q) (by rw [← HNn.out]; exact hqn)
            unfold nmAt at this
            rw [← hff] at this
            have e : rd = rdM fs ms s.kind := HRD.out
            rw [e]
            exact this
          have HMs : Hid (readyG rd row q = false → q + 1 ≤ nextG rd n row) := fun e => firstAt_miss _ _ q (by simpa using hqn) HN.out (by simpa [hqn] using e)
          have HHt : Hid (readyG rd row q = true → nextG rd n row = q) := fun e => firstAt_hit _ _ q (by simpa using hqn) HN.out (by simpa [hqn] using e)
          have HCa : Hid (∀ W, Below wq.heap.size wq W → Calls Tryz.prog 61 #[.slice a row.length c, .string f.nm] W fun e w' => e = .returned (.bool (Pl.has (row.map (nmAt fs)) f.nm)) ∧ W = w') := fun W hW' => hasN _ _ f.nm W ((HO.out.later (blw_trans HWq.out hW')).at_ (by rw [List.length_map]; have := HRl.out; omega))
          have HCb : Hid (Calls Tryz.prog 62 #[.slice (some ⟨mb, 0, none⟩) ms.length ms.length, .string s.kind, .string f.nm, .slice a row.length c] wq fun e w' => e = .returned (.bool (readyN ms s.kind f.nm (row.map (nmAt fs)))) ∧ Below wq.heap.size wq w') := l3Ready mb ms s.kind f.nm a _ c _ wq (HA.out.2.1.later (blw_trans HB0.out HWb.out)) ((HO.out.later HWq.out).at_ (by rw [List.length_map]; have := HRl.out; omega))
          have HFn : Hid (f.nm = nmAt fs q) := by show f.nm = nmAt fs q; rw [hff]; rfl
          obtain ⟨ha, hha⟩ : ∃ ha, ha = Pl.has (row.map (nmAt fs)) f.nm := ⟨_, rfl⟩
          obtain ⟨rn, hrn⟩ : ∃ rn, rn = readyN ms s.kind f.nm (row.map (nmAt fs)) := ⟨_, rfl⟩
          rw [← hha] at HRg HCa
          rw [← hrn] at HRg HCb
          clear hfi hff hha hrn
          go_wp2_with fail
          refine (HCa.out _ (Below.refl _ _)).mono ?_
          rintro e w' ⟨rfl, rfl⟩
          cases ha
          · go_wp2_with fail
            refine HCb.out.mono ?_
            rintro e w3 ⟨rfl, hb3⟩
            have HB3 : Hid (Below wr.heap.size wr w3) := blw_trans HWq.out hb3
            clear hb3 k0 k1 c0 hfb hs1
            cases rn
            · have HM := HMs.out (by rw [← HRg.out]; rfl)
              have HM' : Hid (q + 1 ≤ nextG rd n row) := HM
              clear HM
              go_wp2
              go_roundw
              case rel => exact ⟨rfl, q + 1, by omega, by go_num, HM'.out, HB3.out⟩
              case measure => simp [intOf]; omega
            · have HNx : Hid (rowG rd n (j + 1) = row ++ [q]) := by
                have e := HHt.out (by rw [← HRg.out]; rfl)
                have := rowG_next rd n j (by rw [← HRow.out, e]; exact hqn)
                rw [← HRow.out, e] at this
                exact this
              have hrl : row.length ≤ j := HRl.out
              have hsz : wb.heap.size ≤ w3.heap.size := (blw_trans HW.out HB3.out).size
              go_wp2_with (at_builtin; refine wpList_append_own _ rfl _ _ 24 rfl wb.heap.size 9 i0 (.string ByteArray.empty) 1 16 Tryz.underlying24 hi hz0 hz1 hz2 rfl (by decide) (.slice a row.length c) row.length ((row.map (nmAt fs)).map Value.string) rfl ?c0 ⟨w3.heap.size, 0, none⟩ 1 1 [.string f.nm] rfl ?c1 ?c2 ?c3 ?c4 ?c5 ?c6 ?_)
              case c0 =>
                have := HO.out.2
                rw [List.length_map] at this
                exact owns_later this (blw_trans HB3.out (blw_alloc (Below.refl _ _) _))
              case c1 => rfl
              case c2 => intro k u hk; cases k with | zero => (simp at hk; subst hk; simp [Addr.add]) | succ k => simp at hk
              case c3 => intro u hu; simp at hu; subst hu; rfl
              case c4 => unfold maxLen; omega
              case c5 => omega
              case c6 => simp; omega
              intro v' w4 hown hgrow _
              obtain ⟨a4, d4, hv4⟩ := owns_slice hown
              subst hv4
              have HNo : Hid (NamesOwn w4 wb.heap.size (.slice a4 (row.length + 1) d4) ((row ++ [q]).map (nmAt fs))) := by
                refine NamesOwn.of ?_ (by simp)
                rw [List.length_map, List.length_append, List.map_append, List.map_append, List.map_map]
                rw [HFn.out] at hown
                exact hown
              have HB4 : Hid (Below wb.heap.size wb w4) := by
                have hb := blw_alloc (blw_trans HW.out HB3.out) (.cells #[.string f.nm] 9)
                exact Below.grown hb hgrow hb.size (fun k hk => (World.ownsRow.lt (HO.out.later HB3.out).2 k hk).1)
              clear hown hgrow
              go_wp2
              go_roundw
              case rel => first | exact ⟨j + 1, a4, d4, by omega, by go_num, by rw [HNx.out, List.length_append]; rfl, by rw [HNx.out]; exact HNo.out, HB4.out⟩ | ((repeat apply Exists.intro); exact ⟨⟨j + 1, a4, d4, by omega, by go_num, by rw [HNx.out, List.length_append]; rfl, by rw [HNx.out]; exact HNo.out, HB4.out⟩, rfl⟩)
              case measure => simp [intOf]; omega
          · have HM' : Hid (q + 1 ≤ nextG rd n row) := HMs.out (by rw [← HRg.out]; rfl)
            go_wp2
            go_roundw
            case rel => exact ⟨rfl, q + 1, by omega, by go_num, HM'.out, HWq.out⟩
            case measure => simp [intOf]; omega
        · have HNx : Hid (rowG rd n (j + 1) = row) := by
            show rowG rd n (j + 1) = row
            rw [rowG, ← HRow.out, if_neg (by have := HN.out; omega)]
          go_wp2
          go_roundw
          case rel => first | exact ⟨j + 1, a, c, by omega, by go_num, by rw [HNx.out], by rw [HNx.out]; exact HO.out.later HWq.out, HWb.out⟩ | ((repeat apply Exists.intro); exact ⟨⟨j + 1, a, c, by omega, by go_num, by rw [HNx.out], by rw [HNx.out]; exact HO.out.later HWq.out, HWb.out⟩, rfl⟩)
          case measure => simp [intOf]; omega
    · obtain rfl : j = n := by omega
      go_wp2
      go_ret
      rw [← HRow.out]
      obtain ⟨⟨g, c', e⟩, ho⟩ := HO.out
      injection e with e1 e2 e3
      subst e1 e3
      exact ⟨⟨g, c, rfl, Nat.le_trans HB0.out.size (World.ownsRow.lt ho g rfl).1, HO.out.at_ (by rw [List.length_map]; have := HRl.out; omega)⟩, blw_trans HB0.out HW.out⟩

end Go.Proofs.YtfdahoekjpobaaaGreat
