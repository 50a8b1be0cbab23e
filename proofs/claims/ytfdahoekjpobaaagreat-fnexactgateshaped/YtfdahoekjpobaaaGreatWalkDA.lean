/-
  Walks: the deciding mend: the program.
-/
import Derived.Deep.QuietTactic
import Derived.Deep.DeepCutAuto
import Derived.WalkMore
import Derived.Deep.LoopGhost
import Derived.Test.YtfdahoekjpobaaaGreatWalkMH
import Derived.Test.YtfdahoekjpobaaaGreatWalkJ
namespace Go.Proofs.YtfdahoekjpobaaaGreat
open Go.RowKit Go.Deep

/-- Values that are read. -/
structure VAt (w : World) (g : Nat) (vs : List ByteArray) : Prop where
  lt : g < w.heap.size
  len : vs.length ≤ 1048576
  at_ : ∀ i, i < vs.length → w.cell? ⟨g, i, none⟩ = some (.string (vs.getD i ByteArray.empty))

theorem VAt.later {w w' : World} {g : Nat} {vs : List ByteArray} (h : VAt w g vs) (hb : Below w.heap.size w w') : VAt w' g vs :=
  ⟨Nat.lt_of_lt_of_le h.lt hb.size, h.len, fun i hi => (hb.cell (p := ⟨g, i, none⟩) h.lt).trans (h.at_ i hi)⟩

def Need.none : Need := ⟨0, false, ByteArray.empty⟩
def metB (vs : List ByteArray) (n : Need) : Bool := if n.anyth then !(vs.getD n.place ByteArray.empty).toList.isEmpty else ((vs.getD n.place ByteArray.empty).toList == n.is_.toList)
def decidesB (p : Nat) (vs : List ByteArray) (x : Mng) : Bool := decide (x.field = p) && x.needs.all (metB vs)
def decAt (L : List Mng) (p : Nat) (vs : List ByteArray) : Nat := L.findIdx (decidesB p vs)
def givesB (x : Mng) (vs : List ByteArray) : ByteArray := if x.put.toList.isEmpty then vs.getD x.frm ByteArray.empty else x.put

set_option maxHeartbeats 1000000 in
theorem metI (n : Need) (g cap : Nat) (vs : List ByteArray) (w : World) (h : VAt w g vs) (hp : n.place < vs.length) :
    Calls Tryz.prog 91 #[.agg #[.int .i64 (n.place : Nat), .bool n.anyth, .string n.is_], .slice (some ⟨g, 0, none⟩) vs.length cap] w fun e w' => e = .returned (.bool (metB vs n)) ∧ Below w.heap.size w w' := by
  have hg := h.lt
  have hl := h.len
  have hc : ∀ o, (w.alloc o).cell? ⟨g, n.place, none⟩ = some (.string (vs.getD n.place ByteArray.empty)) := fun o => (World.cell?_alloc_past _ _ _ hg).trans (h.at_ _ hp)
  have hc0 := h.at_ _ hp
  have HM : Hid (metB vs n = if n.anyth then !(vs.getD n.place ByteArray.empty).toList.isEmpty else ((vs.getD n.place ByteArray.empty).toList == n.is_.toList)) := rfl
  obtain ⟨v, hv⟩ : ∃ v, v = vs.getD n.place ByteArray.empty := ⟨_, rfl⟩
  rw [← hv] at hc HM hc0
  clear h hv
  cases ha : n.anyth
  · have HM' : Hid (metB vs n = (v.toList == n.is_.toList)) := by show metB vs n = _; rw [HM.out, ha]; rfl
    clear HM
    go_enter Tryz.func91, Tryz.ntmps91
    go_wp2_with fail
    go_quiet (fail)
    go_wp2
    go_ret
    exact ⟨by rw [HM'.out]; rfl, by repeat (first | exact Below.refl _ _ | refine blw_drewN ?_ _ | refine blw_alloc ?_ _)⟩
  · have HM' : Hid (metB vs n = !v.toList.isEmpty) := by show metB vs n = _; rw [HM.out, ha]; rfl
    clear HM
    go_enter Tryz.func91, Tryz.ntmps91
    go_wp2
    go_ret
    exact ⟨by rw [HM'.out]; rfl, blw_alloc (Below.refl _ _) _⟩

set_option maxHeartbeats 1000000 in
theorem givesI (f : Nat) (a : Option Addr) (k c : Nat) (pt : ByteArray) (fr : Nat) (g cap : Nat) (vs : List ByteArray) (w : World) (h : VAt w g vs) (hp : pt.toList.isEmpty = true → fr < vs.length) :
    Calls Tryz.prog 74 #[.agg #[.int .i64 (f : Nat), .slice a k c, .string pt, .int .i64 (fr : Nat)], .slice (some ⟨g, 0, none⟩) vs.length cap] w fun e w' => e = .returned (.string (if pt.toList.isEmpty then vs.getD fr ByteArray.empty else pt)) ∧ Below w.heap.size w w' := by
  have hg := h.lt
  have hl := h.len
  cases he : pt.toList.isEmpty
  · go_enter Tryz.func74, Tryz.ntmps74
    go_wp2
    go_ret
    exact ⟨rfl, blw_alloc (Below.refl _ _) _⟩
  · have hp := hp he
    have hc : ∀ o, (w.alloc o).cell? ⟨g, fr, none⟩ = some (.string (vs.getD fr ByteArray.empty)) := fun o => (World.cell?_alloc_past _ _ _ hg).trans (h.at_ _ hp)
    have hc0 := h.at_ _ hp
    obtain ⟨v, hv⟩ : ∃ v, v = vs.getD fr ByteArray.empty := ⟨_, rfl⟩
    rw [← hv] at hc hc0
    rw [← hv]
    clear h hv
    go_enter Tryz.func74, Tryz.ntmps74
    go_wp2
    go_ret
    exact ⟨rfl, blw_alloc (Below.refl _ _) _⟩

theorem decAt_miss {L : List Mng} {p : Nat} {vs : List ByteArray} {q : Nat} (hq : q < L.length) (h : q ≤ decAt L p vs) (hd : decidesB p vs (L.getD q Mng.none) = false) : q + 1 ≤ decAt L p vs := by
  rcases Nat.lt_or_eq_of_le h with h | h
  · exact h
  · exfalso
    have e : L.getD q Mng.none = L[q] := by simp [hq]
    have := List.findIdx_getElem (xs := L) (p := decidesB p vs) (w := by unfold decAt at h; rw [← h]; exact hq)
    rw [e] at hd
    unfold decAt at h
    simp only [← h] at this
    rw [hd] at this
    cases this
theorem decAt_hit {L : List Mng} {p : Nat} {vs : List ByteArray} {q : Nat} (hq : q < L.length) (h : q ≤ decAt L p vs) (hd : decidesB p vs (L.getD q Mng.none) = true) : decAt L p vs = q := by
  have e : L.getD q Mng.none = L[q] := by simp [hq]
  rw [e] at hd
  have : decAt L p vs ≤ q := by
    rcases Nat.lt_or_ge q (decAt L p vs) with hlt | hge
    · have := List.not_of_lt_findIdx hlt
      rw [hd] at this
      cases this
    · exact hge
  omega

set_option maxRecDepth 8000 in
set_option maxHeartbeats 4000000 in
theorem decidingI (a : Option Addr) (c p g cap : Nat) (L : List Mng) (vs : List ByteArray) (w : World) (hL : MngsAt w (.slice a L.length c) L) (hl : L.length ≤ 12) (h2 : ∀ x ∈ L, x.needs.length ≤ 2) (hp : ∀ x ∈ L, ∀ n ∈ x.needs, n.place < vs.length) (h : VAt w g vs) :
    Calls Tryz.prog 73 #[.slice a L.length c, .int .i64 (p : Nat), .slice (some ⟨g, 0, none⟩) vs.length cap] w fun e w' => (∃ (f : Nat) (a : Option Addr) (k c : Nat) (pt : ByteArray) (fr : Nat), e = .returned (.tuple #[.agg #[.int .i64 (f : Nat), .slice a k c, .string pt, .int .i64 (fr : Nat)], .bool (decide (decAt L p vs < L.length))]) ∧ (decAt L p vs < L.length → pt = (L.getD (decAt L p vs) Mng.none).put ∧ fr = (L.getD (decAt L p vs) Mng.none).frm)) ∧ Below w.heap.size w w' := by
  have HH : Hid (MngsAt w (.slice a L.length c) L ∧ (∀ x ∈ L, x.needs.length ≤ 2) ∧ (∀ x ∈ L, ∀ n ∈ x.needs, n.place < vs.length) ∧ VAt w g vs) := ⟨hL, h2, hp, h⟩
  clear hL h2 hp h
  go_enter Tryz.func73, Tryz.ntmps73
  go_wp2
  go_step3
  go_wp2
  go_step3
  go_wp2
  go_loopw [9, 11, 14] (fun s9 s11 s14 wr => ∃ q : Nat, q ≤ L.length ∧ s14 = .int .i64 q ∧ q ≤ decAt L p vs ∧ Below w.heap.size w wr ∧ OwnBlk wr w.heap.size 103 4) (fun _ _ s14 _ => L.length - (intOf s14).toNat)
  case atStart => exact ⟨0, Nat.zero_le _, rfl, Nat.zero_le _, blw_alloc (Below.refl _ _) _, OwnBlk.alloc w _ _ _ rfl⟩
  case round =>
    obtain ⟨q, hq, rfl, hqd, hW, hO⟩ := hrel
    rename World => wo
    have HQ : Hid (q ≤ decAt L p vs) := hqd
    have HO : Hid (OwnBlk wo w.heap.size 103 4) := hO
    have HW : Hid (Below w.heap.size w wo) := hW
    clear hqd hO
    by_cases hlt : q < L.length
    · rcases HH.out.1 with ⟨e0, _⟩ | ⟨gm, cm, e0, hgm, hms⟩
      · rw [e0] at hlt; exact absurd hlt (Nat.not_lt_zero q)
      injection e0 with e1 _ e3
      subst e1 e3
      obtain ⟨x, hx⟩ : ∃ x, x = L.getD q Mng.none := ⟨_, rfl⟩
      obtain ⟨ax, dx, hmi⟩ := hms q hlt
      rw [← hx] at hmi
      have HX : Hid (x = L.getD q Mng.none ∧ x.needs.length ≤ 2 ∧ ∀ n ∈ x.needs, n.place < vs.length) := ⟨hx, HH.out.2.1 x (by rw [hx]; simp [hlt]), HH.out.2.2.1 x (by rw [hx]; simp [hlt])⟩
      have HND : Hid (NeedsAt w (.slice ax x.needs.length dx) x.needs) := hmi.needs
      have hmi' := hmi.later hW hgm
      obtain ⟨c0, c1, c2, c3, _⟩ := hmi'
      have hgw : gm < wo.heap.size := Nat.lt_of_lt_of_le hgm hW.size
      clear hmi hms hx
      by_cases heq : (x.field : Int) = (p : Int)
      case neg =>
        have HD : Hid (q + 1 ≤ decAt L p vs) := decAt_miss hlt HQ.out (by rw [← HX.out.1]; unfold decidesB; rw [decide_eq_false (by omega)]; rfl)
        go_wp2
        go_roundw
        case rel => exact ⟨q + 1, by omega, by go_num, HD.out, blw_alloc HW.out _, HO.out.later (blw_alloc (Below.refl _ _) _)⟩
        case measure => simp [intOf]; omega
      obtain rfl : p = x.field := by omega
      clear heq
      have hn2 : x.needs.length ≤ 2 := HX.out.2.1
      obtain ⟨w1, hw1⟩ : ∃ w1, w1 = wo.alloc (.cells #[.int .i64 (x.field : Nat), .slice ax x.needs.length dx, .string x.put, .int .i64 (x.frm : Nat)] 103) := ⟨_, rfl⟩
      have HW1 : Hid (Below w.heap.size w w1) := by show Below _ _ _; rw [hw1]; exact blw_alloc HW.out _
      have HO1 : Hid (OwnBlk w1 w.heap.size 103 4) := by show OwnBlk _ _ _ _; rw [hw1]; exact HO.out.later (blw_alloc (Below.refl _ _) _)
      have HM1 : Hid (wo.heap.size < w1.heap.size ∧ w1.cell? ⟨wo.heap.size, 0, none⟩ = some (.int .i64 (x.field : Nat)) ∧ w1.cell? ⟨wo.heap.size, 1, none⟩ = some (.slice ax x.needs.length dx) ∧ w1.cell? ⟨wo.heap.size, 2, none⟩ = some (.string x.put) ∧ w1.cell? ⟨wo.heap.size, 3, none⟩ = some (.int .i64 (x.frm : Nat))) := by
        show _ ∧ _ ∧ _ ∧ _ ∧ _
        rw [hw1]
        exact ⟨by simp, World.cell?_alloc_at _ _ _ _ rfl, World.cell?_alloc_at _ _ _ _ rfl, World.cell?_alloc_at _ _ _ _ rfl, World.cell?_alloc_at _ _ _ _ rfl⟩
      go_upto_region 4 with fail
      rw [← hw1]
      clear hw1 c0 c1 c2 c3 hgw
      obtain ⟨mz, m0, m1, m2, m3⟩ := HM1.out
      go_wp2
      clear mz m0 m1 m2 m3
      go_loopw [11, 25] (fun s11 s25 wq => ∃ j : Nat, j ≤ x.needs.length ∧ s25 = .int .i64 j ∧ (x.needs.take j).all (metB vs) = true ∧ Below w1.heap.size w1 wq) (fun _ s25 _ => x.needs.length - (intOf s25).toNat)
      case atStart => exact ⟨0, Nat.zero_le _, rfl, rfl, Below.refl _ _⟩
      case round =>
        obtain ⟨j, hj, rfl, hall, hWj⟩ := hrel
        rename World => wq
        have HA : Hid ((x.needs.take j).all (metB vs) = true) := hall
        have HWj : Hid (Below w.heap.size w wq) := blw_trans HW1.out hWj
        have HWq : Hid (Below w1.heap.size w1 wq) := hWj
        clear hall
        by_cases hjl : j < x.needs.length
        · rcases HND.out with ⟨e0, _⟩ | ⟨g2, c2, e0, hg2, hcs⟩
          · rw [e0] at hjl; exact absurd hjl (Nat.not_lt_zero j)
          injection e0 with e1 e2 e3
          subst e1 e3
          obtain ⟨d0, d1, d2⟩ := hcs j hjl
          have d0 := (HWj.out.cell (p := ⟨g2, j * 3, none⟩) hg2).trans d0
          have d1 := (HWj.out.cell (p := ⟨g2, j * 3 + 1, none⟩) hg2).trans d1
          have d2 := (HWj.out.cell (p := ⟨g2, j * 3 + 2, none⟩) hg2).trans d2
          obtain ⟨y, hy⟩ : ∃ y, y = x.needs.getD j ⟨0, false, ByteArray.empty⟩ := ⟨_, rfl⟩
          rw [← hy] at d0 d1 d2
          have hgq : g2 < wq.heap.size := Nat.lt_of_lt_of_le hg2 HWj.out.size
          have hye : y = x.needs[j] := by rw [hy]; simp [hjl]
          have HY : Hid ((x.needs.take (j + 1)).all (metB vs) = metB vs y) := by
            show (x.needs.take (j + 1)).all (metB vs) = metB vs y
            rw [List.take_succ_eq_append_getElem hjl, List.all_append, HA.out, hye]; simp
          have HC : Hid (∀ o, Calls Tryz.prog 91 #[.agg #[.int .i64 (y.place : Nat), .bool y.anyth, .string y.is_], .slice (some ⟨g, 0, none⟩) vs.length cap] (wq.alloc o) fun e w' => e = .returned (.bool (metB vs y)) ∧ Below (wq.alloc o).heap.size (wq.alloc o) w') := fun o => metI y g cap vs _ ((HH.out.2.2.2.later HWj.out).later (blw_alloc (Below.refl _ _) _)) (HX.out.2.2 y (by rw [hye]; exact List.getElem_mem hjl))
          have HAL : Hid (metB vs y = false → x.needs.all (metB vs) = false) := by
            intro hf
            rw [List.all_eq_false]
            exact ⟨y, by rw [hye]; exact List.getElem_mem hjl, by rw [hf]; simp⟩
          obtain ⟨mb, hmb⟩ : ∃ mb, mb = metB vs y := ⟨_, rfl⟩
          rw [← hmb] at HY HC HAL
          clear hmb hy hye hcs hWj
          go_wp2_with fail
          refine (HC.out _).mono ?_
          rintro e w3 ⟨rfl, hb3⟩
          have HK3 : Hid (Below wq.heap.size wq w3) := blw_trans (blw_alloc (Below.refl _ _) _) hb3
          clear hb3 d0 d1 d2 HC
          cases mb
          · have HD : Hid (q + 1 ≤ decAt L x.field vs) := decAt_miss hlt HQ.out (by rw [← HX.out.1]; unfold decidesB; rw [HAL.out rfl]; simp)
            have HO3 : Hid (OwnBlk w3 w.heap.size 103 4) := (HO1.out.later HWq.out).later HK3.out
            go_wp2
            go_roundw
            case rel => first | exact ⟨q + 1, by omega, by go_num, HD.out, blw_trans HWj.out HK3.out, HO3.out⟩ | ((repeat apply Exists.intro); exact ⟨⟨q + 1, by omega, by go_num, HD.out, blw_trans HWj.out HK3.out, HO3.out⟩, rfl⟩)
            case measure => simp [intOf]; omega
          · go_wp2
            go_roundw
            case rel => first | exact ⟨j + 1, by omega, by go_num, HY.out, blw_trans HWq.out HK3.out⟩ | ((repeat apply Exists.intro); exact ⟨⟨j + 1, by omega, by go_num, HY.out, blw_trans HWq.out HK3.out⟩, rfl⟩)
            case measure => simp [intOf]; omega
        · have HD : Hid (decAt L x.field vs = q) := decAt_hit hlt HQ.out (by
            have := HA.out
            rw [List.take_of_length_le (by omega)] at this
            rw [← HX.out.1]; unfold decidesB; rw [this]; simp)
          have HOq : Hid (OwnBlk wq w.heap.size 103 4) := HO1.out.later HWq.out
          have k := fun j => HWq.out.cell (p := ⟨wo.heap.size, j, none⟩) HM1.out.1
          have m0 := (k 0).trans HM1.out.2.1
          have m1 := (k 1).trans HM1.out.2.2.1
          have m2 := (k 2).trans HM1.out.2.2.2.1
          have m3 := (k 3).trans HM1.out.2.2.2.2
          have mz := Nat.lt_of_lt_of_le HM1.out.1 HWq.out.size
          clear k
          have hfz := HOq.out.frozen
          have hz := HOq.out.lt
          obtain ⟨z0, e0⟩ := HOq.out.cell 0 (by omega)
          obtain ⟨z1, e1⟩ := HOq.out.cell 1 (by omega)
          obtain ⟨z2, e2⟩ := HOq.out.cell 2 (by omega)
          obtain ⟨z3, e3⟩ := HOq.out.cell 3 (by omega)
          go_wp2
          have t := fun i hi => puts_at 0 [.int .i64 (x.field : Nat), .slice ax x.needs.length dx, .string x.put, .int .i64 (x.frm : Nat)] wq 0 HOq.out (by simp) i hi
          have t0 := t 0 (by simp)
          have t1 := t 1 (by simp)
          have t2 := t 2 (by simp)
          have t3 := t 3 (by simp)
          have HBE : Hid (Below w.heap.size w (puts wq w.heap.size 0 0 [.int .i64 (x.field : Nat), .slice ax x.needs.length dx, .string x.put, .int .i64 (x.frm : Nat)])) := puts_below (a := w) _ (Nat.le_refl _) _ _ _ HWj.out
          simp only [puts, Nat.add_zero, Nat.zero_add, Nat.reduceAdd, List.getElem?_cons_zero, List.getElem?_cons_succ] at t0 t1 t2 t3
          try rw [Exit.noGoto_ret]
          refine bodyPost_ret (v := .tuple #[.agg #[.int .i64 (x.field : Nat), .slice ax x.needs.length dx, .string x.put, .int .i64 (x.frm : Nat)], .bool true]) (by simp [results, Tryz.results73, go_sem, t0, t1, t2, t3]) rfl ⟨⟨x.field, ax, x.needs.length, dx, x.put, x.frm, ?_, fun _ => ?_⟩, ?_⟩
          · rw [HD.out, decide_eq_true hlt]
          · rw [HD.out, ← HX.out.1]; exact ⟨rfl, rfl⟩
          · exact HBE.out
    · have HD : Hid (decide (decAt L p vs < L.length) = false) := by have := HQ.out; show decide _ = false; rw [decide_eq_false]; omega
      have hfz := HO.out.frozen
      have hz := HO.out.lt
      obtain ⟨z0, e0⟩ := HO.out.cell 0 (by omega)
      obtain ⟨z1, e1⟩ := HO.out.cell 1 (by omega)
      obtain ⟨z2, e2⟩ := HO.out.cell 2 (by omega)
      obtain ⟨z3, e3⟩ := HO.out.cell 3 (by omega)
      go_wp2
      have t := fun i hi => puts_at 0 [.int .i64 0, .slice none 0 0, .string ⟨#[]⟩, .int .i64 0] wo 0 HO.out (by simp) i hi
      have t0 := t 0 (by simp)
      have t1 := t 1 (by simp)
      have t2 := t 2 (by simp)
      have t3 := t 3 (by simp)
      have HBE : Hid (Below w.heap.size w (puts wo w.heap.size 0 0 [.int .i64 0, .slice none 0 0, .string ⟨#[]⟩, .int .i64 0])) := puts_below (a := w) _ (Nat.le_refl _) _ _ _ HW.out
      simp only [puts, Nat.add_zero, Nat.zero_add, Nat.reduceAdd, List.getElem?_cons_zero, List.getElem?_cons_succ] at t0 t1 t2 t3
      try rw [Exit.noGoto_ret]
      refine bodyPost_ret (v := .tuple #[.agg #[.int .i64 0, .slice none 0 0, .string ⟨#[]⟩, .int .i64 0], .bool false]) (by simp [results, Tryz.results73, go_sem, t0, t1, t2, t3]) rfl ⟨⟨0, none, 0, 0, ⟨#[]⟩, 0, ?_, fun hh => ?_⟩, ?_⟩
      · rw [HD.out]; rfl
      · rw [decide_eq_true hh] at HD; exact absurd HD.out (by simp)
      · exact HBE.out

end Go.Proofs.YtfdahoekjpobaaaGreat
