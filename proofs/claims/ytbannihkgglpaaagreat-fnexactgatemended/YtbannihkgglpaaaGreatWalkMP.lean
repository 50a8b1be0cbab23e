/-
  Walks: mends that are ok: the program.
-/
import Derived.Test.YtbannihkgglpaaaGreatWalkMO
import Derived.Test.YtbannihkgglpaaaGreatWalkAH
namespace Go.Proofs.YtbannihkgglpaaaGreat
open Go.RowKit Go.Deep

theorem needs_two (fs : List Fld) (ms : List Mnd) (K : ByteArray) : ∀ x ∈ mngsOf fs ms K, x.needs.length ≤ 2 := by
  intro x hx
  unfold mngsOf at hx
  rw [List.mem_map] at hx
  obtain ⟨m, _, rfl⟩ := hx
  show (needsOf fs m).length ≤ 2
  unfold needsOf
  split <;> split <;> simp

theorem mngs_len (fs : List Fld) (ms : List Mnd) (K : ByteArray) : (mngsOf fs ms K).length ≤ ms.length := by
  rw [← mngsTo_all fs ms K ms.length (Nat.le_refl _)]
  exact mngsTo_len fs ms K ms.length

set_option maxRecDepth 8000 in
set_option maxHeartbeats 8000000 in
theorem mendsOkI (B mb : Nat) (ss : List Shp) (ms : List Mnd) (w : World) (h : ShpsIn w B ss) (hm : MndsIn w mb ms) :
    Calls Tryz.prog 31 #[.slice (some ⟨B, 0, none⟩) ss.length ss.length, .slice (some ⟨mb, 0, none⟩) ms.length ms.length] w fun e w' => e = .returned (.bool (mendsOk ss ms)) ∧ Below w.heap.size w w' := by
  have HA : Hid (ShpsIn w B ss ∧ MndsIn w mb ms) := ⟨h, hm⟩
  have hl := h.len
  have hlm := hm.len
  clear h hm
  go_enter Tryz.func31, Tryz.ntmps31
  go_wp2_with fail
  refine (shapesOkI B ss w HA.out.1).mono ?_
  rintro e w1 ⟨rfl, hb1⟩
  have HB1 : Hid (Below w.heap.size w w1) := hb1
  clear hb1
  cases hok : shapesOk ss
  · have HR : Hid (mendsOk ss ms = false) := by show mendsOk ss ms = false; unfold mendsOk; rw [hok]; rfl
    go_wp2
    go_ret
    exact ⟨Pl.ret_bool HR.out.symm, HB1.out⟩
  have HOK : Hid (shapesOk ss = true) := hok
  clear hok
  by_cases h12 : ms.length ≤ 12
  case neg =>
    have HR : Hid (mendsOk ss ms = false) := by show mendsOk ss ms = false; unfold mendsOk; simp [h12]
    go_wp2
    go_ret
    exact ⟨Pl.ret_bool HR.out.symm, HB1.out⟩
  go_wp2
  go_loopw [23] (fun i wr => ∃ k : Nat, k ≤ ms.length ∧ i = .int .i64 k ∧ mendsTo ss ms k = true ∧ Below w.heap.size w wr) (fun i _ => ms.length - (intOf i).toNat)
  case atStart => exact ⟨0, Nat.zero_le _, rfl, rfl, HB1.out⟩
  case round =>
    obtain ⟨k, hk, rfl, hall, hW⟩ := hrel
    have HM : Hid (mendsTo ss ms k = true) := hall
    have HW : Hid (Below w.heap.size w wr) := hW
    clear hall
    by_cases hlt : k < ms.length
    · have hmk := (HA.out.2.later hW).at_ k hlt
      obtain ⟨m, hmm⟩ : ∃ m, m = ms.getD k Mnd.none := ⟨_, rfl⟩
      rw [← hmm] at hmk
      have hmb : mb < wr.heap.size := (HA.out.2.later hW).lt
      have HZ : Hid m.sized := hmk.sized
      obtain ⟨c0, c1, c2, c3, c4, c5, _⟩ := hmk
      have HS : Hid (mendOk ss m = true → mendsTo ss ms (k + 1) = true) := fun e => mendsTo_step HM.out (by rw [← hmm]; exact e)
      have HF : Hid (mendOk ss m = false → mendsOk ss ms = false) := fun e => mendsOk_m hlt (by rw [← hmm]; exact e)
      have HO : Hid (OwnBlk (wr.alloc (.cells #[.string m.kind, .string m.field, .string m.whn, .string m.is_, .string m.put, .string m.frm] 58)) wr.heap.size 58 6 ∧ MndIs (wr.alloc (.cells #[.string m.kind, .string m.field, .string m.whn, .string m.is_, .string m.put, .string m.frm] 58)) wr.heap.size 0 m) := ⟨OwnBlk.alloc wr _ 58 6 rfl, ⟨by simp, by simp, by simp, by simp, by simp, by simp, HZ.out⟩⟩
      have HBx : Hid (Below w.heap.size w (wr.alloc (.cells #[.string m.kind, .string m.field, .string m.whn, .string m.is_, .string m.put, .string m.frm] 58))) := blw_alloc HW.out _
      clear hmm hW
      go_wp2_with fail
      refine (shapeOf_in w B ss m.kind _ HA.out.1 HBx.out).mono ?_
      rintro e w2 ⟨kd, a, n, c, rfl, hso, hb2⟩
      have HB2 : Hid (Below w.heap.size w w2) := blw_trans HBx.out hb2
      have HO2 : Hid (OwnBlk w2 wr.heap.size 58 6 ∧ MndIs w2 wr.heap.size 0 m) := ⟨HO.out.1.later hb2, HO.out.2.later hb2 HO.out.1.lt⟩
      have HSO : Hid (ShapeOf ss m.kind w kd (.slice a n c)) := hso
      have hz2 := HO2.out.1.lt
      have m0 : w2.cell? ⟨wr.heap.size, 0, none⟩ = some (.string m.kind) := HO2.out.2.c0
      have m1 : w2.cell? ⟨wr.heap.size, 1, none⟩ = some (.string m.field) := HO2.out.2.c1
      have m2 : w2.cell? ⟨wr.heap.size, 2, none⟩ = some (.string m.whn) := HO2.out.2.c2
      have m3 : w2.cell? ⟨wr.heap.size, 3, none⟩ = some (.string m.is_) := HO2.out.2.c3
      have m4 : w2.cell? ⟨wr.heap.size, 4, none⟩ = some (.string m.put) := HO2.out.2.c4
      have m5 : w2.cell? ⟨wr.heap.size, 5, none⟩ = some (.string m.frm) := HO2.out.2.c5
      clear hb2 hso c0 c1 c2 c3 c4 c5 hmb HO HBx
      cases hkd : hasKind ss m.kind
      · have HR : Hid (mendsOk ss ms = false) := HF.out (by unfold mendOk; rw [hkd]; rfl)
        go_wp2
        go_ret
        exact ⟨Pl.ret_bool HR.out.symm, blw_alloc HB2.out _⟩
      obtain ⟨e1, b, e2, hbl, hfs⟩ := HSO.out hkd
      have hkl : kindAt ss m.kind < ss.length := by unfold hasKind at hkd; exact of_decide_eq_true hkd
      obtain ⟨s, hs⟩ : ∃ s, s = ss.getD (kindAt ss m.kind) Shp.none := ⟨_, rfl⟩
      rw [← hs] at e1 e2 hfs
      subst e1
      injection e2 with e2 e3 e4
      subst e2 e3 e4
      have hsm : s.small := HA.out.1.small s (by rw [hs]; simp [hkl])
      have HFI : Hid (FldsIn w b s.fields) := ⟨hbl, hsm.1, hsm.2, hfs⟩
      have HE : Hid (mendOk ss m = mendOkF s.fields m) := by show mendOk ss m = _; unfold mendOk; rw [hkd, ← hs]; rfl
      have hfl := hsm.1
      clear hs hsm hfs hbl hkl HSO
      go_wp2_with fail
      refine (mendOkI b s.fields m _ (HFI.out.later (blw_alloc HB2.out _)) HZ.out).mono ?_
      rintro e w3 ⟨rfl, hb3⟩
      have HB3 : Hid (Below w.heap.size w w3) := blw_trans (blw_alloc HB2.out _) hb3
      clear hb3 m0 m1 m2 m3 m4 m5
      cases hr : mendOkF s.fields m
      · have HR : Hid (mendsOk ss ms = false) := HF.out (by rw [HE.out]; exact hr)
        go_wp2
        go_ret
        exact ⟨Pl.ret_bool HR.out.symm, HB3.out⟩
      · have HR : Hid (mendsTo ss ms (k + 1) = true) := HS.out (by rw [HE.out]; exact hr)
        go_wp2
        go_roundw
        case rel => exact ⟨k + 1, by omega, by go_num, HR.out, HB3.out⟩
        case measure => simp [intOf]; omega
    · obtain rfl : k = ms.length := by omega
      clear hW
      go_wp2
      go_loopw [46] (fun i wr => ∃ q : Nat, q ≤ ss.length ∧ i = .int .i64 q ∧ rowsTo ss ms q = true ∧ Below w.heap.size w wr) (fun i _ => ss.length - (intOf i).toNat)
      case atStart => exact ⟨0, Nat.zero_le _, rfl, rfl, HW.out⟩
      case round =>
        obtain ⟨q, hq, rfl, hrows, hW⟩ := hrel
        rename World => wq
        have HRw : Hid (rowsTo ss ms q = true) := hrows
        have HWq : Hid (Below w.heap.size w wq) := hW
        clear hrows
        by_cases hqn : q < ss.length
        · obtain ⟨s, hs⟩ : ∃ s, s = ss.getD q Shp.none := ⟨_, rfl⟩
          obtain ⟨b, hfl, _, c0, c1⟩ := (HA.out.1.later hW).flds hqn hs
          have HFd : Hid (∀ m ∈ ms, ofKind s.kind m = true → found s.fields m) := by rw [hs]; exact found_of HOK.out HM.out hqn
          have hn6 : s.fields.length ≤ 6 := by rw [hs]; exact fields_few (fieldsOk_of HOK.out hqn)
          have hBl : B < wq.heap.size := (HA.out.1.later hW).lt
          have HS : Hid (shapeRow ms s = true → rowsTo ss ms (q + 1) = true) := fun e => rowsTo_step HRw.out (by rw [← hs]; exact e)
          have HF : Hid (shapeRow ms s = false → mendsOk ss ms = false) := fun e => mendsOk_r hqn (by rw [← hs]; exact e)
          have HX : Hid (∀ W, Below wq.heap.size wq W → wq.heap.size < W.heap.size → W.cell? ⟨wq.heap.size, 0, none⟩ = some (.string s.kind) → W.cell? ⟨wq.heap.size, 1, none⟩ = some (.slice (some ⟨b, 0, none⟩) s.fields.length s.fields.length) → Calls Tryz.prog 56 #[.agg #[.string s.kind, .slice (some ⟨b, 0, none⟩) s.fields.length s.fields.length], .slice (some ⟨mb, 0, none⟩) ms.length ms.length] W fun e w' =>
              (∃ a n c, e = .returned (.slice a n c) ∧ MngsAt w' (.slice a n c) (mngsOf s.fields ms s.kind)) ∧ Below W.heap.size W w' ∧ (w'.cell? ⟨wq.heap.size, 0, none⟩ = some (.string s.kind) ∧ w'.cell? ⟨wq.heap.size, 1, none⟩ = some (.slice (some ⟨b, 0, none⟩) s.fields.length s.fields.length) ∧ wq.heap.size < w'.heap.size)) := by
            intro W hW' hz g0 g1
            refine (mendingsOf s b mb ms W (hfl.later hW') (HA.out.2.later (blw_trans HWq.out hW')) HFd.out).mono ?_
            rintro e w' ⟨⟨a, n, c, rfl, hmo⟩, hb⟩
            exact ⟨⟨_, _, _, rfl, hmo.at_⟩, hb, (hb.cell (p := ⟨wq.heap.size, 0, none⟩) hz).trans g0, (hb.cell (p := ⟨wq.heap.size, 1, none⟩) hz).trans g1, Nat.lt_of_lt_of_le hz hb.size⟩
          have HY : Hid (∀ a n c W, MngsAt W (.slice a n c) (mngsOf s.fields ms s.kind) → Calls Tryz.prog 55 #[.agg #[.string s.kind, .slice (some ⟨b, 0, none⟩) s.fields.length s.fields.length], .slice a n c] W fun e w' => (∃ a k d, e = .returned (.tuple #[.slice a k d, .bool (shapeRow ms s)])) ∧ Below W.heap.size W w') := by
            intro a n c W hmo
            refine (mendRowI s.kind s.fields.length _ _ a n c _ W (by omega) hmo (Nat.le_trans (mngs_len _ _ _) h12) (needs_two _ _ _)).mono ?_
            rintro e w' ⟨⟨a', k', d', rfl, _⟩, hb⟩
            exact ⟨⟨_, _, _, rfl⟩, hb⟩
          have HBx : Hid (Below w.heap.size w (wq.alloc (.cells #[.string s.kind, .slice (some ⟨b, 0, none⟩) s.fields.length s.fields.length] 56))) := blw_alloc HWq.out _
          clear hs hfl hW
          obtain ⟨R, hR⟩ : ∃ R, R = shapeRow ms s := ⟨_, rfl⟩
          rw [← hR] at HY HS HF
          clear hR
          go_upto_region 13 with fail
          go_cut [12] (fun x wx => x = .bool R ∧ Below w.heap.size w wx)
          case first =>
            go_region_with (first
              | (go_at_call 56; refine (HX.out _ ?_ (by simp) (by simp) (by simp)).mono ?_; (repeat (first | exact Below.refl _ _ | refine Below.drew ?_ | refine blw_alloc ?_ _)); rintro e w3 ⟨⟨a3, n3, c3, rfl, hmo⟩, hb3, g0, g1, gz⟩; have HB3 : Hid (Below w.heap.size w w3) := blw_trans (by repeat (first | exact HBx.out | refine Below.drew ?_)) hb3; clear hb3)
              | (go_at_call 55; refine (HY.out _ _ _ _ (MngsAt.later hmo (by repeat (first | exact Below.refl _ _ | refine Below.drew ?_)))).mono ?_; rintro e w4 ⟨⟨a4, n4, c4, rfl⟩, hb4⟩))
            all_goals
              go_wp2_with fail
              go_meet
              refine ⟨rfl, ?_⟩
              repeat (first | exact blw_trans HB3.out hb4 | exact blw_trans HB3.out.drew hb4 | exact blw_trans HB3.out.drew.drew hb4 | refine Below.drew ?_)
          case rest =>
          obtain ⟨rfl, hbx⟩ := hcut
          rename World => w5
          cases R
          · have HR : Hid (mendsOk ss ms = false) := HF.out rfl
            go_wp2
            go_ret
            exact ⟨Pl.ret_bool HR.out.symm, hbx⟩
          · have HR : Hid (rowsTo ss ms (q + 1) = true) := HS.out rfl
            go_wp2
            go_roundw
            case rel => first | exact ⟨q + 1, by omega, by go_num, HR.out, hbx⟩ | ((repeat apply Exists.intro); exact ⟨⟨q + 1, by omega, by go_num, HR.out, hbx⟩, rfl⟩)
            case measure => simp [intOf]; omega
        · obtain rfl : q = ss.length := by omega
          have HR : Hid (mendsOk ss ms = true) := by show mendsOk ss ms = true; unfold mendsOk; rw [HOK.out, HM.out, HRw.out]; simp [h12]
          go_wp2
          go_ret
          exact ⟨Pl.ret_bool HR.out.symm, HWq.out⟩

end Go.Proofs.YtbannihkgglpaaaGreat
