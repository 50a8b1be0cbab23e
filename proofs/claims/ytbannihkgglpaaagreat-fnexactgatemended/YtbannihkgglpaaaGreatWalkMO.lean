/-
  Walks: mends that are ok: the specification.
-/
import Derived.Test.YtbannihkgglpaaaGreatWalkMN
import Derived.Test.YtbannihkgglpaaaGreatWalkZ
namespace Go.Proofs.YtbannihkgglpaaaGreat
open Go.RowKit Go.Deep

theorem mendsTo_step {ss : List Shp} {ms : List Mnd} {k : Nat} (h : mendsTo ss ms k = true) (ha : mendOk ss (ms.getD k Mnd.none) = true) : mendsTo ss ms (k + 1) = true := by
  unfold mendsTo at h ⊢; rw [Pl.to_succ, h, ha]; rfl
theorem rowsTo_step {ss : List Shp} {ms : List Mnd} {k : Nat} (h : rowsTo ss ms k = true) (ha : shapeRow ms (ss.getD k Shp.none) = true) : rowsTo ss ms (k + 1) = true := by
  unfold rowsTo at h ⊢; rw [Pl.to_succ, h, ha]; rfl
theorem mendsOk_m {ss : List Shp} {ms : List Mnd} {k : Nat} (hk : k < ms.length) (h : mendOk ss (ms.getD k Mnd.none) = false) : mendsOk ss ms = false := by
  unfold mendsOk mendsTo; rw [Pl.to_false _ _ k hk h]; simp
theorem mendsOk_r {ss : List Shp} {ms : List Mnd} {k : Nat} (hk : k < ss.length) (h : shapeRow ms (ss.getD k Shp.none) = false) : mendsOk ss ms = false := by
  unfold mendsOk rowsTo; rw [Pl.to_false _ _ k hk h]; simp

set_option maxRecDepth 8000 in
set_option maxHeartbeats 8000000 in
theorem mendsOkS (B mb : Nat) (ss : List Shp) (ms : List Mnd) (w : World) (h : ShpsIn w B ss) (hm : MndsIn w mb ms) :
    Calls Tryz.prog 25 #[.slice (some ⟨B, 0, none⟩) ss.length ss.length, .slice (some ⟨mb, 0, none⟩) ms.length ms.length] w fun e w' => e = .returned (.bool (mendsOk ss ms)) ∧ Below w.heap.size w w' := by
  have HA : Hid (ShpsIn w B ss ∧ MndsIn w mb ms) := ⟨h, hm⟩
  have hl := h.len
  have hlm := hm.len
  clear h hm
  go_enter Tryz.func25, Tryz.ntmps25
  go_wp2_with fail
  refine (shapesOkS B ss w HA.out.1).mono ?_
  rintro e w1 ⟨rfl, hb1⟩
  have HB1 : Hid (Below w.heap.size w w1) := hb1
  clear hb1
  cases hok : shapesOk ss
  · have HR : Hid (mendsOk ss ms = false) := by show mendsOk ss ms = false; unfold mendsOk; rw [hok]; rfl
    go_wp2
    go_ret
    exact ⟨Pl.ret_bool HR.out.symm, HB1.out⟩
  have HOK : Hid (shapesOk ss = true) := hok
  clear hok
  by_cases h12 : ms.length ≤ 12
  case neg =>
    have HR : Hid (mendsOk ss ms = false) := by show mendsOk ss ms = false; unfold mendsOk; simp [h12]
    go_wp2
    go_ret
    exact ⟨Pl.ret_bool HR.out.symm, HB1.out⟩
  go_wp2
  go_loopw [5] (fun i wr => ∃ k : Nat, k ≤ ms.length ∧ i = .int .i64 k ∧ mendsTo ss ms k = true ∧ Below w.heap.size w wr) (fun i _ => ms.length - (intOf i).toNat)
  case atStart => exact ⟨0, Nat.zero_le _, rfl, rfl, HB1.out⟩
  case round =>
    obtain ⟨k, hk, rfl, hall, hW⟩ := hrel
    have HM : Hid (mendsTo ss ms k = true) := hall
    have HW : Hid (Below w.heap.size w wr) := hW
    clear hall
    by_cases hlt : k < ms.length
    · have hmk := (HA.out.2.later hW).at_ k hlt
      obtain ⟨m, hmm⟩ : ∃ m, m = ms.getD k Mnd.none := ⟨_, rfl⟩
      rw [← hmm] at hmk
      have hmb : mb < wr.heap.size := (HA.out.2.later hW).lt
      have HX : Hid (Calls Tryz.prog 45 #[.slice (some ⟨B, 0, none⟩) ss.length ss.length, .agg #[.string m.kind, .string m.field, .string m.whn, .string m.is_, .string m.put, .string m.frm]] wr fun e w' => e = .returned (.bool (mendOk ss m)) ∧ Below wr.heap.size wr w') := mendOkS B ss m wr (HA.out.1.later hW) HOK.out hmk.sized
      obtain ⟨c0, c1, c2, c3, c4, c5, _⟩ := hmk
      have HS : Hid (mendOk ss m = true → mendsTo ss ms (k + 1) = true) := fun e => mendsTo_step HM.out (by rw [← hmm]; exact e)
      have HF : Hid (mendOk ss m = false → mendsOk ss ms = false) := fun e => mendsOk_m hlt (by rw [← hmm]; exact e)
      clear hmm hW
      go_wp2_with fail
      refine HX.out.mono ?_
      rintro e w3 ⟨rfl, hb3⟩
      have HB3 : Hid (Below w.heap.size w w3) := blw_trans HW.out hb3
      clear hb3 c0 c1 c2 c3 c4 c5 hmb
      cases hr : mendOk ss m
      · have HR : Hid (mendsOk ss ms = false) := HF.out hr
        go_wp2
        go_ret
        exact ⟨Pl.ret_bool HR.out.symm, HB3.out⟩
      · have HR : Hid (mendsTo ss ms (k + 1) = true) := HS.out hr
        go_wp2
        go_roundw
        case rel => exact ⟨k + 1, by omega, by go_num, HR.out, HB3.out⟩
        case measure => simp [intOf]; omega
    · obtain rfl : k = ms.length := by omega
      clear hW
      go_wp2
      go_loopw [6] (fun i wr => ∃ q : Nat, q ≤ ss.length ∧ i = .int .i64 q ∧ rowsTo ss ms q = true ∧ Below w.heap.size w wr) (fun i _ => ss.length - (intOf i).toNat)
      case atStart => exact ⟨0, Nat.zero_le _, rfl, rfl, HW.out⟩
      case round =>
        obtain ⟨q, hq, rfl, hrows, hW⟩ := hrel
        rename World => wq
        have HRw : Hid (rowsTo ss ms q = true) := hrows
        have HWq : Hid (Below w.heap.size w wq) := hW
        clear hrows
        by_cases hqn : q < ss.length
        · obtain ⟨s, hs⟩ : ∃ s, s = ss.getD q Shp.none := ⟨_, rfl⟩
          obtain ⟨b, hfl, _, c0, c1⟩ := (HA.out.1.later hW).flds hqn hs
          have HFo : Hid (fieldsOk ss s.fields = true) := by show fieldsOk ss s.fields = true; rw [hs]; exact fieldsOk_of HOK.out hqn
          have HFd : Hid (∀ m ∈ ms, ofKind s.kind m = true → found s.fields m) := by rw [hs]; exact found_of HOK.out HM.out hqn
          have hn6 := fields_few HFo.out
          have HX : Hid (∀ W, Below wq.heap.size wq W → Calls Tryz.prog 46 #[.agg #[.string s.kind, .slice (some ⟨b, 0, none⟩) s.fields.length s.fields.length], .slice (some ⟨mb, 0, none⟩) ms.length ms.length] W fun e w' => (∃ a c, e = .returned (.slice a (rowG (rdM s.fields ms s.kind) s.fields.length s.fields.length).length c)) ∧ Below W.heap.size W w' ∧ w'.cell? ⟨B, q * 2 + 1, none⟩ = some (.slice (some ⟨b, 0, none⟩) s.fields.length s.fields.length) ∧ B < w'.heap.size) := by
            intro W hW'
            refine (l3RowS ss s b mb ms W (hfl.later hW') (HA.out.2.later (blw_trans HWq.out hW')) HFo.out HFd.out).mono ?_
            rintro e w' ⟨⟨a, c, rfl, _⟩, hb⟩
            exact ⟨⟨_, _, rfl⟩, hb, ((blw_trans hW' hb).cell (p := ⟨B, q * 2 + 1, none⟩) (HA.out.1.later HWq.out).lt).trans c1, Nat.lt_of_lt_of_le (HA.out.1.later HWq.out).lt (blw_trans hW' hb).size⟩
          have hBl : B < wq.heap.size := (HA.out.1.later hW).lt
          have HS : Hid (shapeRow ms s = true → rowsTo ss ms (q + 1) = true) := fun e => rowsTo_step HRw.out (by rw [← hs]; exact e)
          have HF : Hid (shapeRow ms s = false → mendsOk ss ms = false) := fun e => mendsOk_r hqn (by rw [← hs]; exact e)
          obtain ⟨rl, hrl⟩ : ∃ rl, rl = (rowG (rdM s.fields ms s.kind) s.fields.length s.fields.length).length := ⟨_, rfl⟩
          have hrl6 : rl ≤ 6 := by have := rowG_le (rdM s.fields ms s.kind) s.fields.length s.fields.length; omega
          have HRl : Hid (shapeRow ms s = decide (rl = s.fields.length)) := by rw [hrl]; rfl
          rw [← hrl] at HX
          clear hs hfl hrl hW
          by_cases heq : (rl : Int) = (s.fields.length : Int)
          · have HR : Hid (rowsTo ss ms (q + 1) = true) := HS.out (by rw [HRl.out]; simp; omega)
            go_wp2_with fail
            go_region_with (go_at_call 46; refine (HX.out _ ?_).mono ?_; (repeat (first | exact Below.refl _ _ | refine Below.drew ?_)); rintro e w3 ⟨⟨a3, c3, rfl⟩, hb3, d1, dB⟩)
            all_goals
              go_wp2
              go_roundw
              case rel =>
                refine ⟨q + 1, by omega, by go_num, HR.out, ?_⟩
                repeat (first | exact blw_trans HWq.out hb3 | exact blw_trans HWq.out.drew hb3 | exact blw_trans HWq.out.drew.drew hb3 | refine Below.drew ?_)
              case measure => simp [intOf]; omega
          · have HR : Hid (mendsOk ss ms = false) := HF.out (by rw [HRl.out]; simp; omega)
            go_wp2_with fail
            go_region_with (go_at_call 46; refine (HX.out _ ?_).mono ?_; (repeat (first | exact Below.refl _ _ | refine Below.drew ?_)); rintro e w3 ⟨⟨a3, c3, rfl⟩, hb3, d1, dB⟩)
            all_goals
              go_wp2
              go_ret
              refine ⟨Pl.ret_bool HR.out.symm, ?_⟩
              repeat (first | exact blw_trans HWq.out hb3 | exact blw_trans HWq.out.drew hb3 | exact blw_trans HWq.out.drew.drew hb3 | refine Below.drew ?_)
        · obtain rfl : q = ss.length := by omega
          have HR : Hid (mendsOk ss ms = true) := by show mendsOk ss ms = true; unfold mendsOk; rw [HOK.out, HM.out, HRw.out]; simp [h12]
          go_wp2
          go_ret
          exact ⟨Pl.ret_bool HR.out.symm, HWq.out⟩

end Go.Proofs.YtbannihkgglpaaaGreat
