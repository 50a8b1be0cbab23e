/-
  Plain functions: values that are mended.
-/
import Derived.Test.YtfdahoekjpobaaaGreatWalkMN
import Derived.Test.YtfdahoekjpobaaaGreatWalkZ
import Derived.Test.YtfdahoekjpobaaaGreatWalkDA
import Derived.Test.YtfdahoekjpobaaaGreatWalkAI
namespace Go.Proofs.YtfdahoekjpobaaaGreat
open Go.RowKit Go.Deep

theorem mendsTo_step {ss : List Shp} {ms : List Mnd} {k : Nat} (h : mendsTo ss ms k = true) (ha : mendOk ss (ms.getD k Mnd.none) = true) : mendsTo ss ms (k + 1) = true := by
  unfold mendsTo at h ⊢; rw [Pl.to_succ, h, ha]; rfl
theorem rowsTo_step {ss : List Shp} {ms : List Mnd} {k : Nat} (h : rowsTo ss ms k = true) (ha : shapeRow ms (ss.getD k Shp.none) = true) : rowsTo ss ms (k + 1) = true := by
  unfold rowsTo at h ⊢; rw [Pl.to_succ, h, ha]; rfl
theorem mendsOk_m {ss : List Shp} {ms : List Mnd} {k : Nat} (hk : k < ms.length) (h : mendOk ss (ms.getD k Mnd.none) = false) : mendsOk ss ms = false := by
  unfold mendsOk mendsTo; rw [Pl.to_false _ _ k hk h]; simp
theorem mendsOk_r {ss : List Shp} {ms : List Mnd} {k : Nat} (hk : k < ss.length) (h : shapeRow ms (ss.getD k Shp.none) = false) : mendsOk ss ms = false := by
  unfold mendsOk rowsTo; rw [Pl.to_false _ _ k hk h]; simp

set_option maxRecDepth 8000 in
set_option maxHeartbeats 8000000 in
theorem mendsOkS (B mb : Nat) (ss : List Shp) (ms : List Mnd) (w : World) (h : ShpsIn w B ss) (hm : MndsIn w mb ms) :
    Calls Tryz.prog 22 #[.slice (some ⟨B, 0, none⟩) ss.length ss.length, .slice (some ⟨mb, 0, none⟩) ms.length ms.length] w fun e w' => e = .returned (.bool (mendsOk ss ms)) ∧ Below w.heap.size w w' := by
  have HA : Hid (ShpsIn w B ss ∧ MndsIn w mb ms) := ⟨h, hm⟩
  have hl := h.len
  have hlm := hm.len
  clear h hm
  go_enter Tryz.func22, Tryz.ntmps22
  go_wp2_with fail
  refine (shapesOkS B ss w HA.out.1).mono ?_
  rintro e w1 ⟨rfl, hb1⟩
  have HB1 : Hid (Below w.heap.size w w1) := hb1
  clear hb1
  cases hok : shapesOk ss
  · have HR : Hid (mendsOk ss ms = false) := by show mendsOk ss ms = false; unfold mendsOk; rw [hok]; rfl
    go_wp2
    go_ret
    exact ⟨Pl.ret_bool HR.out.symm, HB1.out⟩
  have HOK : Hid (shapesOk ss = true) := hok
  clear hok
  by_cases h12 : ms.length ≤ 12
  case neg =>
    have HR : Hid (mendsOk ss ms = false) := by show mendsOk ss ms = false; unfold mendsOk; simp [h12]
    go_wp2
    go_ret
    exact ⟨Pl.ret_bool HR.out.symm, HB1.out⟩
  go_wp2
  go_loopw [5] (fun i wr => ∃ k : Nat, k ≤ ms.length ∧ i = .int .i64 k ∧ mendsTo ss ms k = true ∧ Below w.heap.size w wr) (fun i _ => ms.length - (intOf i).toNat)
  case atStart => exact ⟨0, Nat.zero_le _, rfl, rfl, HB1.out⟩
  case round =>
    obtain ⟨k, hk, rfl, hall, hW⟩ := hrel
    have HM : Hid (mendsTo ss ms k = true) := hall
    have HW : Hid (Below w.heap.size w wr) := hW
    clear hall
    by_cases hlt : k < ms.length
    · have hmk := (HA.out.2.later hW).at_ k hlt
      obtain ⟨m, hmm⟩ : ∃ m, m = ms.getD k Mnd.none := ⟨_, rfl⟩
      rw [← hmm] at hmk
      have hmb : mb < wr.heap.size := (HA.out.2.later hW).lt
      have HX : Hid (Calls Tryz.prog 40 #[.slice (some ⟨B, 0, none⟩) ss.length ss.length, .agg #[.string m.kind, .string m.field, .string m.whn, .string m.is_, .string m.put, .string m.frm]] wr fun e w' => e = .returned (.bool (mendOk ss m)) ∧ Below wr.heap.size wr w') := mendOkS B ss m wr (HA.out.1.later hW) HOK.out hmk.sized
      obtain ⟨c0, c1, c2, c3, c4, c5, _⟩ := hmk
      have HS : Hid (mendOk ss m = true → mendsTo ss ms (k + 1) = true) := fun e => mendsTo_step HM.out (by rw [← hmm]; exact e)
      have HF : Hid (mendOk ss m = false → mendsOk ss ms = false) := fun e => mendsOk_m hlt (by rw [← hmm]; exact e)
      clear hmm hW
      go_wp2_with fail
      refine HX.out.mono ?_
      rintro e w3 ⟨rfl, hb3⟩
      have HB3 : Hid (Below w.heap.size w w3) := blw_trans HW.out hb3
      clear hb3 c0 c1 c2 c3 c4 c5 hmb
      cases hr : mendOk ss m
      · have HR : Hid (mendsOk ss ms = false) := HF.out hr
        go_wp2
        go_ret
        exact ⟨Pl.ret_bool HR.out.symm, HB3.out⟩
      · have HR : Hid (mendsTo ss ms (k + 1) = true) := HS.out hr
        go_wp2
        go_roundw
        case rel => exact ⟨k + 1, by omega, by go_num, HR.out, HB3.out⟩
        case measure => simp [intOf]; omega
    · obtain rfl : k = ms.length := by omega
      clear hW
      go_wp2
      go_loopw [6] (fun i wr => ∃ q : Nat, q ≤ ss.length ∧ i = .int .i64 q ∧ rowsTo ss ms q = true ∧ Below w.heap.size w wr) (fun i _ => ss.length - (intOf i).toNat)
      case atStart => exact ⟨0, Nat.zero_le _, rfl, rfl, HW.out⟩
      case round =>
        obtain ⟨q, hq, rfl, hrows, hW⟩ := hrel
        rename World => wq
        have HRw : Hid (rowsTo ss ms q = true) := hrows
        have HWq : Hid (Below w.heap.size w wq) := hW
        clear hrows
        by_cases hqn : q < ss.length
        · obtain ⟨s, hs⟩ : ∃ s, s = ss.getD q Shp.none := ⟨_, rfl⟩
          obtain ⟨b, hfl, _, c0, c1⟩ := (HA.out.1.later hW).flds hqn hs
          have HFo : Hid (fieldsOk ss s.fields = true) := by show fieldsOk ss s.fields = true; rw [hs]; exact fieldsOk_of HOK.out hqn
          have HFd : Hid (∀ m ∈ ms, ofKind s.kind m = true → found s.fields m) := by rw [hs]; exact found_of HOK.out HM.out hqn
          have hn6 := fields_few HFo.out
          have HX : Hid (∀ W, Below wq.heap.size wq W → Calls Tryz.prog 41 #[.agg #[.string s.kind, .slice (some ⟨b, 0, none⟩) s.fields.length s.fields.length], .slice (some ⟨mb, 0, none⟩) ms.length ms.length] W fun e w' => (∃ a c, e = .returned (.slice a (rowG (rdM s.fields ms s.kind) s.fields.length s.fields.length).length c)) ∧ Below W.heap.size W w' ∧ w'.cell? ⟨B, q * 2 + 1, none⟩ = some (.slice (some ⟨b, 0, none⟩) s.fields.length s.fields.length) ∧ B < w'.heap.size) := by
            intro W hW'
            refine (l3RowS ss s b mb ms W (hfl.later hW') (HA.out.2.later (blw_trans HWq.out hW')) HFo.out HFd.out).mono ?_
            rintro e w' ⟨⟨a, c, rfl, _⟩, hb⟩
            exact ⟨⟨_, _, rfl⟩, hb, ((blw_trans hW' hb).cell (p := ⟨B, q * 2 + 1, none⟩) (HA.out.1.later HWq.out).lt).trans c1, Nat.lt_of_lt_of_le (HA.out.1.later HWq.out).lt (blw_trans hW' hb).size⟩
          have hBl : B < wq.heap.size := (HA.out.1.later hW).lt
          have HS : Hid (shapeRow ms s = true → rowsTo ss ms (q + 1) = true) := fun e => rowsTo_step HRw.out (by rw [← hs]; exact e)
          have HF : Hid (shapeRow ms s = false → mendsOk ss ms = false) := fun e => mendsOk_r hqn (by rw [← hs]; exact e)
          obtain ⟨rl, hrl⟩ : ∃ rl, rl = (rowG (rdM s.fields ms s.kind) s.fields.length s.fields.length).length := ⟨_, rfl⟩
          have hrl6 : rl ≤ 6 := by have := rowG_le (rdM s.fields ms s.kind) s.fields.length s.fields.length; omega
          have HRl : Hid (shapeRow ms s = decide (rl = s.fields.length)) := by rw [hrl]; rfl
          rw [← hrl] at HX
          clear hs hfl hrl hW
          by_cases heq : (rl : Int) = (s.fields.length : Int)
          · have HR : Hid (rowsTo ss ms (q + 1) = true) := HS.out (by rw [HRl.out]; simp; omega)
            go_wp2_with fail
            go_region_with (go_at_call 41; refine (HX.out _ ?_).mono ?_; (repeat (first | exact Below.refl _ _ | refine Below.drew ?_)); rintro e w3 ⟨⟨a3, c3, rfl⟩, hb3, d1, dB⟩)
            all_goals
              go_wp2
              go_roundw
              case rel =>
                refine ⟨q + 1, by omega, by go_num, HR.out, ?_⟩
                repeat (first | exact blw_trans HWq.out hb3 | exact blw_trans HWq.out.drew hb3 | exact blw_trans HWq.out.drew.drew hb3 | refine Below.drew ?_)
              case measure => simp [intOf]; omega
          · have HR : Hid (mendsOk ss ms = false) := HF.out (by rw [HRl.out]; simp; omega)
            go_wp2_with fail
            go_region_with (go_at_call 41; refine (HX.out _ ?_).mono ?_; (repeat (first | exact Below.refl _ _ | refine Below.drew ?_)); rintro e w3 ⟨⟨a3, c3, rfl⟩, hb3, d1, dB⟩)
            all_goals
              go_wp2
              go_ret
              refine ⟨Pl.ret_bool HR.out.symm, ?_⟩
              repeat (first | exact blw_trans HWq.out hb3 | exact blw_trans HWq.out.drew hb3 | exact blw_trans HWq.out.drew.drew hb3 | refine Below.drew ?_)
        · obtain rfl : q = ss.length := by omega
          have HR : Hid (mendsOk ss ms = true) := by show mendsOk ss ms = true; unfold mendsOk; rw [HOK.out, HM.out, HRw.out]; simp [h12]
          go_wp2
          go_ret
          exact ⟨Pl.ret_bool HR.out.symm, HWq.out⟩

end Go.Proofs.YtfdahoekjpobaaaGreat

namespace Go.Proofs.YtfdahoekjpobaaaGreat
open Go.RowKit Go.Deep

theorem needs_two (fs : List Fld) (ms : List Mnd) (K : ByteArray) : ∀ x ∈ mngsOf fs ms K, x.needs.length ≤ 2 := by
  intro x hx
  unfold mngsOf at hx
  rw [List.mem_map] at hx
  obtain ⟨m, _, rfl⟩ := hx
  show (needsOf fs m).length ≤ 2
  unfold needsOf
  split <;> split <;> simp

theorem mngs_len (fs : List Fld) (ms : List Mnd) (K : ByteArray) : (mngsOf fs ms K).length ≤ ms.length := by
  rw [← mngsTo_all fs ms K ms.length (Nat.le_refl _)]
  exact mngsTo_len fs ms K ms.length

set_option maxRecDepth 8000 in
set_option maxHeartbeats 8000000 in
theorem mendsOkI (B mb : Nat) (ss : List Shp) (ms : List Mnd) (w : World) (h : ShpsIn w B ss) (hm : MndsIn w mb ms) :
    Calls Tryz.prog 28 #[.slice (some ⟨B, 0, none⟩) ss.length ss.length, .slice (some ⟨mb, 0, none⟩) ms.length ms.length] w fun e w' => e = .returned (.bool (mendsOk ss ms)) ∧ Below w.heap.size w w' := by
  have HA : Hid (ShpsIn w B ss ∧ MndsIn w mb ms) := ⟨h, hm⟩
  have hl := h.len
  have hlm := hm.len
  clear h hm
  go_enter Tryz.func28, Tryz.ntmps28
  go_wp2_with fail
  refine (shapesOkI B ss w HA.out.1).mono ?_
  rintro e w1 ⟨rfl, hb1⟩
  have HB1 : Hid (Below w.heap.size w w1) := hb1
  clear hb1
  cases hok : shapesOk ss
  · have HR : Hid (mendsOk ss ms = false) := by show mendsOk ss ms = false; unfold mendsOk; rw [hok]; rfl
    go_wp2
    go_ret
    exact ⟨Pl.ret_bool HR.out.symm, HB1.out⟩
  have HOK : Hid (shapesOk ss = true) := hok
  clear hok
  by_cases h12 : ms.length ≤ 12
  case neg =>
    have HR : Hid (mendsOk ss ms = false) := by show mendsOk ss ms = false; unfold mendsOk; simp [h12]
    go_wp2
    go_ret
    exact ⟨Pl.ret_bool HR.out.symm, HB1.out⟩
  go_wp2
  go_loopw [23] (fun i wr => ∃ k : Nat, k ≤ ms.length ∧ i = .int .i64 k ∧ mendsTo ss ms k = true ∧ Below w.heap.size w wr) (fun i _ => ms.length - (intOf i).toNat)
  case atStart => exact ⟨0, Nat.zero_le _, rfl, rfl, HB1.out⟩
  case round =>
    obtain ⟨k, hk, rfl, hall, hW⟩ := hrel
    have HM : Hid (mendsTo ss ms k = true) := hall
    have HW : Hid (Below w.heap.size w wr) := hW
    clear hall
    by_cases hlt : k < ms.length
    · have hmk := (HA.out.2.later hW).at_ k hlt
      obtain ⟨m, hmm⟩ : ∃ m, m = ms.getD k Mnd.none := ⟨_, rfl⟩
      rw [← hmm] at hmk
      have hmb : mb < wr.heap.size := (HA.out.2.later hW).lt
      have HZ : Hid m.sized := hmk.sized
      obtain ⟨c0, c1, c2, c3, c4, c5, _⟩ := hmk
      have HS : Hid (mendOk ss m = true → mendsTo ss ms (k + 1) = true) := fun e => mendsTo_step HM.out (by rw [← hmm]; exact e)
      have HF : Hid (mendOk ss m = false → mendsOk ss ms = false) := fun e => mendsOk_m hlt (by rw [← hmm]; exact e)
      have HO : Hid (OwnBlk (wr.alloc (.cells #[.string m.kind, .string m.field, .string m.whn, .string m.is_, .string m.put, .string m.frm] 58)) wr.heap.size 58 6 ∧ MndIs (wr.alloc (.cells #[.string m.kind, .string m.field, .string m.whn, .string m.is_, .string m.put, .string m.frm] 58)) wr.heap.size 0 m) := ⟨OwnBlk.alloc wr _ 58 6 rfl, ⟨by simp, by simp, by simp, by simp, by simp, by simp, HZ.out⟩⟩
      have HBx : Hid (Below w.heap.size w (wr.alloc (.cells #[.string m.kind, .string m.field, .string m.whn, .string m.is_, .string m.put, .string m.frm] 58))) := blw_alloc HW.out _
      clear hmm hW
      go_wp2_with fail
      refine (shapeOf_in w B ss m.kind _ HA.out.1 HBx.out).mono ?_
      rintro e w2 ⟨kd, a, n, c, rfl, hso, hb2⟩
      have HB2 : Hid (Below w.heap.size w w2) := blw_trans HBx.out hb2
      have HO2 : Hid (OwnBlk w2 wr.heap.size 58 6 ∧ MndIs w2 wr.heap.size 0 m) := ⟨HO.out.1.later hb2, HO.out.2.later hb2 HO.out.1.lt⟩
      have HSO : Hid (ShapeOf ss m.kind w kd (.slice a n c)) := hso
      have hz2 := HO2.out.1.lt
      have m0 : w2.cell? ⟨wr.heap.size, 0, none⟩ = some (.string m.kind) := HO2.out.2.c0
      have m1 : w2.cell? ⟨wr.heap.size, 1, none⟩ = some (.string m.field) := HO2.out.2.c1
      have m2 : w2.cell? ⟨wr.heap.size, 2, none⟩ = some (.string m.whn) := HO2.out.2.c2
      have m3 : w2.cell? ⟨wr.heap.size, 3, none⟩ = some (.string m.is_) := HO2.out.2.c3
      have m4 : w2.cell? ⟨wr.heap.size, 4, none⟩ = some (.string m.put) := HO2.out.2.c4
      have m5 : w2.cell? ⟨wr.heap.size, 5, none⟩ = some (.string m.frm) := HO2.out.2.c5
      clear hb2 hso c0 c1 c2 c3 c4 c5 hmb HO HBx
      cases hkd : hasKind ss m.kind
      · have HR : Hid (mendsOk ss ms = false) := HF.out (by unfold mendOk; rw [hkd]; rfl)
        go_wp2
        go_ret
        exact ⟨Pl.ret_bool HR.out.symm, blw_alloc HB2.out _⟩
      obtain ⟨e1, b, e2, hbl, hfs⟩ := HSO.out hkd
      have hkl : kindAt ss m.kind < ss.length := by unfold hasKind at hkd; exact of_decide_eq_true hkd
      obtain ⟨s, hs⟩ : ∃ s, s = ss.getD (kindAt ss m.kind) Shp.none := ⟨_, rfl⟩
      rw [← hs] at e1 e2 hfs
      subst e1
      injection e2 with e2 e3 e4
      subst e2 e3 e4
      have hsm : s.small := HA.out.1.small s (by rw [hs]; simp [hkl])
      have HFI : Hid (FldsIn w b s.fields) := ⟨hbl, hsm.1, hsm.2, hfs⟩
      have HE : Hid (mendOk ss m = mendOkF s.fields m) := by show mendOk ss m = _; unfold mendOk; rw [hkd, ← hs]; rfl
      have hfl := hsm.1
      clear hs hsm hfs hbl hkl HSO
      go_wp2_with fail
      refine (mendOkI b s.fields m _ (HFI.out.later (blw_alloc HB2.out _)) HZ.out).mono ?_
      rintro e w3 ⟨rfl, hb3⟩
      have HB3 : Hid (Below w.heap.size w w3) := blw_trans (blw_alloc HB2.out _) hb3
      clear hb3 m0 m1 m2 m3 m4 m5
      cases hr : mendOkF s.fields m
      · have HR : Hid (mendsOk ss ms = false) := HF.out (by rw [HE.out]; exact hr)
        go_wp2
        go_ret
        exact ⟨Pl.ret_bool HR.out.symm, HB3.out⟩
      · have HR : Hid (mendsTo ss ms (k + 1) = true) := HS.out (by rw [HE.out]; exact hr)
        go_wp2
        go_roundw
        case rel => exact ⟨k + 1, by omega, by go_num, HR.out, HB3.out⟩
        case measure => simp [intOf]; omega
    · obtain rfl : k = ms.length := by omega
      clear hW
      go_wp2
      go_loopw [46] (fun i wr => ∃ q : Nat, q ≤ ss.length ∧ i = .int .i64 q ∧ rowsTo ss ms q = true ∧ Below w.heap.size w wr) (fun i _ => ss.length - (intOf i).toNat)
      case atStart => exact ⟨0, Nat.zero_le _, rfl, rfl, HW.out⟩
      case round =>
        obtain ⟨q, hq, rfl, hrows, hW⟩ := hrel
        rename World => wq
        have HRw : Hid (rowsTo ss ms q = true) := hrows
        have HWq : Hid (Below w.heap.size w wq) := hW
        clear hrows
        by_cases hqn : q < ss.length
        · obtain ⟨s, hs⟩ : ∃ s, s = ss.getD q Shp.none := ⟨_, rfl⟩
          obtain ⟨b, hfl, _, c0, c1⟩ := (HA.out.1.later hW).flds hqn hs
          have HFd : Hid (∀ m ∈ ms, ofKind s.kind m = true → found s.fields m) := by rw [hs]; exact found_of HOK.out HM.out hqn
          have hn6 : s.fields.length ≤ 6 := by rw [hs]; exact fields_few (fieldsOk_of HOK.out hqn)
          have hBl : B < wq.heap.size := (HA.out.1.later hW).lt
          have HS : Hid (shapeRow ms s = true → rowsTo ss ms (q + 1) = true) := fun e => rowsTo_step HRw.out (by rw [← hs]; exact e)
          have HF : Hid (shapeRow ms s = false → mendsOk ss ms = false) := fun e => mendsOk_r hqn (by rw [← hs]; exact e)
          have HX : Hid (∀ W, Below wq.heap.size wq W → wq.heap.size < W.heap.size → W.cell? ⟨wq.heap.size, 0, none⟩ = some (.string s.kind) → W.cell? ⟨wq.heap.size, 1, none⟩ = some (.slice (some ⟨b, 0, none⟩) s.fields.length s.fields.length) → Calls Tryz.prog 49 #[.agg #[.string s.kind, .slice (some ⟨b, 0, none⟩) s.fields.length s.fields.length], .slice (some ⟨mb, 0, none⟩) ms.length ms.length] W fun e w' =>
              (∃ a n c, e = .returned (.slice a n c) ∧ MngsAt w' (.slice a n c) (mngsOf s.fields ms s.kind)) ∧ Below W.heap.size W w' ∧ (w'.cell? ⟨wq.heap.size, 0, none⟩ = some (.string s.kind) ∧ w'.cell? ⟨wq.heap.size, 1, none⟩ = some (.slice (some ⟨b, 0, none⟩) s.fields.length s.fields.length) ∧ wq.heap.size < w'.heap.size)) := by
            intro W hW' hz g0 g1
            refine (mendingsOf s b mb ms W (hfl.later hW') (HA.out.2.later (blw_trans HWq.out hW')) HFd.out).mono ?_
            rintro e w' ⟨⟨a, n, c, rfl, hmo⟩, hb⟩
            exact ⟨⟨_, _, _, rfl, hmo.at_⟩, hb, (hb.cell (p := ⟨wq.heap.size, 0, none⟩) hz).trans g0, (hb.cell (p := ⟨wq.heap.size, 1, none⟩) hz).trans g1, Nat.lt_of_lt_of_le hz hb.size⟩
          have HY : Hid (∀ a n c W, MngsAt W (.slice a n c) (mngsOf s.fields ms s.kind) → Calls Tryz.prog 48 #[.agg #[.string s.kind, .slice (some ⟨b, 0, none⟩) s.fields.length s.fields.length], .slice a n c] W fun e w' => (∃ a k d, e = .returned (.tuple #[.slice a k d, .bool (shapeRow ms s)])) ∧ Below W.heap.size W w') := by
            intro a n c W hmo
            refine (mendRowI s.kind s.fields.length _ _ a n c _ W (by omega) hmo (Nat.le_trans (mngs_len _ _ _) h12) (needs_two _ _ _)).mono ?_
            rintro e w' ⟨⟨a', k', d', rfl, _⟩, hb⟩
            exact ⟨⟨_, _, _, rfl⟩, hb⟩
          have HBx : Hid (Below w.heap.size w (wq.alloc (.cells #[.string s.kind, .slice (some ⟨b, 0, none⟩) s.fields.length s.fields.length] 56))) := blw_alloc HWq.out _
          clear hs hfl hW
          obtain ⟨R, hR⟩ : ∃ R, R = shapeRow ms s := ⟨_, rfl⟩
          rw [← hR] at HY HS HF
          clear hR
          go_upto_region 13 with fail
          go_cut [12] (fun x wx => x = .bool R ∧ Below w.heap.size w wx)
          case first =>
            go_region_with (first
              | (go_at_call 49; refine (HX.out _ ?_ (by simp) (by simp) (by simp)).mono ?_; (repeat (first | exact Below.refl _ _ | refine Below.drew ?_ | refine blw_alloc ?_ _)); rintro e w3 ⟨⟨a3, n3, c3, rfl, hmo⟩, hb3, g0, g1, gz⟩; have HB3 : Hid (Below w.heap.size w w3) := blw_trans (by repeat (first | exact HBx.out | refine Below.drew ?_)) hb3; clear hb3)
              | (go_at_call 48; refine (HY.out _ _ _ _ (MngsAt.later hmo (by repeat (first | exact Below.refl _ _ | refine Below.drew ?_)))).mono ?_; rintro e w4 ⟨⟨a4, n4, c4, rfl⟩, hb4⟩))
            all_goals
              go_wp2_with fail
              go_meet
              refine ⟨rfl, ?_⟩
              repeat (first | exact blw_trans HB3.out hb4 | exact blw_trans HB3.out.drew hb4 | exact blw_trans HB3.out.drew.drew hb4 | refine Below.drew ?_)
          case rest =>
          obtain ⟨rfl, hbx⟩ := hcut
          rename World => w5
          cases R
          · have HR : Hid (mendsOk ss ms = false) := HF.out rfl
            go_wp2
            go_ret
            exact ⟨Pl.ret_bool HR.out.symm, hbx⟩
          · have HR : Hid (rowsTo ss ms (q + 1) = true) := HS.out rfl
            go_wp2
            go_roundw
            case rel => first | exact ⟨q + 1, by omega, by go_num, HR.out, hbx⟩ | ((repeat apply Exists.intro); exact ⟨⟨q + 1, by omega, by go_num, HR.out, hbx⟩, rfl⟩)
            case measure => simp [intOf]; omega
        · obtain rfl : q = ss.length := by omega
          have HR : Hid (mendsOk ss ms = true) := by show mendsOk ss ms = true; unfold mendsOk; rw [HOK.out, HM.out, HRw.out]; simp [h12]
          go_wp2
          go_ret
          exact ⟨Pl.ret_bool HR.out.symm, HWq.out⟩

end Go.Proofs.YtfdahoekjpobaaaGreat

namespace Go.Proofs.YtfdahoekjpobaaaGreat
open Go.RowKit Go.Deep

def mendStep (L : List Mng) (vs : List ByteArray) (p : Nat) : List ByteArray := if decAt L p vs < L.length then vs.set p (givesB (L.getD (decAt L p vs) Mng.none) vs) else vs
def mendBy (L : List Mng) (vs : List ByteArray) (row : List Nat) : List ByteArray := row.foldl (mendStep L) vs
def mngsAt (ss : List Shp) (ms : List Mnd) (K : ByteArray) : List Mng := mngsOf (ss.getD (kindAt ss K) Shp.none).fields ms (ss.getD (kindAt ss K) Shp.none).kind
def rowAt (ss : List Shp) (ms : List Mnd) (K : ByteArray) : List Nat := rowG (rdOf (mngsAt ss ms K)) (ss.getD (kindAt ss K) Shp.none).fields.length (ss.getD (kindAt ss K) Shp.none).fields.length
def mendVals (ss : List Shp) (ms : List Mnd) (K : ByteArray) (vs : List ByteArray) : List ByteArray :=
  if hasKind ss K = true ∧ vs.length = (ss.getD (kindAt ss K) Shp.none).fields.length then mendBy (mngsAt ss ms K) vs (rowAt ss ms K) else vs

theorem mendStep_len (L : List Mng) (vs : List ByteArray) (p : Nat) : (mendStep L vs p).length = vs.length := by unfold mendStep; split <;> simp
theorem mendBy_len (L : List Mng) : ∀ (row : List Nat) (vs : List ByteArray), (mendBy L vs row).length = vs.length
  | [], _ => rfl
  | p :: row, vs => by show (mendBy L (mendStep L vs p) row).length = _; rw [mendBy_len L row, mendStep_len]
theorem mendVals_len (ss : List Shp) (ms : List Mnd) (K : ByteArray) (vs : List ByteArray) : (mendVals ss ms K vs).length = vs.length := by
  unfold mendVals; split
  · exact mendBy_len _ _ _
  · rfl
theorem mendBy_take (L : List Mng) (vs : List ByteArray) (row : List Nat) (k : Nat) (hk : k < row.length) : mendBy L vs (row.take (k + 1)) = mendStep L (mendBy L vs (row.take k)) (row.getD k 0) := by
  have e : row.getD k 0 = row[k] := by simp [hk]
  rw [List.take_succ_eq_append_getElem hk, e]
  unfold mendBy
  rw [List.foldl_append]
  rfl

theorem need_lt {fs : List Fld} {ms : List Mnd} {K : ByteArray} (hf : ∀ m ∈ ms, ofKind K m = true → found fs m) : ∀ x ∈ mngsOf fs ms K, ∀ n ∈ x.needs, n.place < fs.length := by
  intro x hx n hn
  unfold mngsOf at hx
  obtain ⟨m, hm, rfl⟩ := List.mem_map.1 hx
  obtain ⟨hm1, hm2⟩ := List.mem_filter.1 hm
  obtain ⟨_, f2, f3⟩ := hf m hm1 hm2
  have hn' : n ∈ needsOf fs m := hn
  unfold needsOf at hn'
  rcases List.mem_append.1 hn' with h | h
  · cases hw : Pl.isEmp m.whn
    · rw [hw] at h; simp at h; rw [h]; exact f2 hw
    · rw [hw] at h; simp at h
  · cases hw : Pl.isEmp m.frm
    · rw [hw] at h; simp at h; rw [h]; exact f3 hw
    · rw [hw] at h; simp at h

theorem mendOkF_of {ss : List Shp} {ms : List Mnd} (h : shapesOk ss = true) (hm : mendsTo ss ms ms.length = true) {i : Nat} (hi : i < ss.length) : ∀ m ∈ ms, ofKind (ss.getD i Shp.none).kind m = true → mendOkF (ss.getD i Shp.none).fields m = true := by
  intro m hmm hk
  unfold mendsTo at hm
  rw [all_range, List.all_eq_true] at hm
  have h1 := hm m hmm
  unfold mendOk at h1
  have hks := kindAt_self h hi hk
  rw [hks] at h1
  exact ((Bool.and_eq_true _ _).mp h1).2

theorem frm_lt {fs : List Fld} {ms : List Mnd} {K : ByteArray} (hf : ∀ m ∈ ms, ofKind K m = true → found fs m) (ho : ∀ m ∈ ms, ofKind K m = true → mendOkF fs m = true) : ∀ x ∈ mngsOf fs ms K, x.put.toList.isEmpty = true → x.frm < fs.length := by
  intro x hx hp
  unfold mngsOf at hx
  obtain ⟨m, hm, rfl⟩ := List.mem_map.1 hx
  obtain ⟨hm1, hm2⟩ := List.mem_filter.1 hm
  obtain ⟨_, _, f3⟩ := hf m hm1 hm2
  have h2 := ho m hm1 hm2
  unfold mendOkF at h2
  simp only [Bool.and_eq_true] at h2
  obtain ⟨⟨⟨⟨_, p2⟩, _⟩, _⟩, _⟩ := h2
  have hp' : Pl.isEmp m.put = true := hp
  have hfe : Pl.isEmp m.frm = false := by
    unfold badM at p2
    rw [hp'] at p2
    cases hh : Pl.isEmp m.frm
    · rfl
    · rw [hh] at p2; simp at p2
  show (if Pl.isEmp m.frm = true then 0 else nameAt fs m.frm) < fs.length
  rw [hfe]
  exact f3 hfe

theorem CT.setv {w : World} {lo hi : Nat} {g cap : Nat} {ss : List ByteArray} (h : CT w lo hi (.slice (some ⟨g, 0, none⟩) ss.length cap) ss) (p : Nat) (hp : p < ss.length) (z : ByteArray) : CT (w.setCell ⟨g, p, none⟩ (.string z)) lo hi (.slice (some ⟨g, 0, none⟩) ss.length cap) (ss.set p z) := by
  rcases h with ⟨e, e2⟩ | ⟨g', cap', e, h1, h2, h3, h4, h5⟩
  · rw [e2] at hp; exact absurd hp (Nat.not_lt_zero p)
  · injection e with e1 e3 e4
    injection e1 with e1
    injection e1 with e1
    subst e1 e4
    refine Or.inr ⟨g, cap, by rw [List.length_set], h1, h2, h3.setCell p _, by rw [List.length_set]; exact h4, fun i hi => ?_⟩
    rw [List.length_set] at hi
    by_cases hip : i = p
    · subst hip
      rw [sc_eq h3 i (by omega) _]
      simp [hi]
    · rw [sc_ne _ _ _ _ _ _ (Or.inr hip), h5 i hi]
      simp [hi, Ne.symm hip]

theorem FInv.setv {w wr : World} {X mid : Nat} {o : Ob} {vs : List ByteArray} {g cap : Nat} {v2 : Value} (h : FInv w wr X mid o vs (.slice (some ⟨g, 0, none⟩) vs.length cap) v2) (p : Nat) (hp : p < vs.length) (z : ByteArray) :
    FInv w (wr.setCell ⟨g, p, none⟩ (.string z)) X mid o (vs.set p z) (.slice (some ⟨g, 0, none⟩) vs.length cap) v2 := by
  obtain ⟨g1, g2, _, _, _, _⟩ := h.c1.row
  have m1 := h.m1
  have m2 := h.m2
  have c : ∀ j, (wr.setCell ⟨g, p, none⟩ (.string z)).cell? ⟨X, j, none⟩ = wr.cell? ⟨X, j, none⟩ := fun j => sc_ne _ _ _ _ _ _ (Or.inl (by omega))
  exact ⟨h.bel.setCell (p := ⟨g, p, none⟩) (by show w.heap.size ≤ g; omega) _, h.own.sc_other (by omega) _ _, by rw [sc_size']; exact h.lt, (c 0).trans h.x0, (c 1).trans h.x1, (c 2).trans h.x2, (c 3).trans h.x3, (c 4).trans h.x4, (c 5).trans h.x5, (c 6).trans h.x6, h.c1.setv p hp z, h.c2.sc (Or.inl (by omega)) _ _, m1, m2⟩

end Go.Proofs.YtfdahoekjpobaaaGreat
