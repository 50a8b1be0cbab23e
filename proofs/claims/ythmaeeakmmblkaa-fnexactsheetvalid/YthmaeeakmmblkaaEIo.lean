/-
  Sheets: lists that ascend: the program.
-/
import Derived.Test.YthmaeeakmmblkaaEIl
namespace Go.Proofs.Ythmaeeakmmblkaa
open Go.RowKit Go.Deep

def ascLn (l : List Pl.Ru) (L : List Pl.Ln) : Bool := (List.range (L.length - 1)).all fun i => decide (cmpLn l (L.getD i Pl.lnNo) (L.getD (i + 1) Pl.lnNo) < 0)
set_option maxRecDepth 8000 in
set_option maxHeartbeats 8000000 in
theorem ascLnI (l : List Pl.Ru) (va : Option Addr) (vc : Nat) (hl0 : l.length ≤ 100) (L : List Pl.Ln) (v : Value) (w : World) (hr0 : Raw w [.row 41 shSheetRule] [rulesD l] [.slice va l.length vc]) (h : Raw w shLns [lnsD L] [v]) :
    Calls Try.prog 45 #[v, .func (.func 46) #[.agg #[.slice va l.length vc]] #[]] w fun e w' => e = .returned (.bool (ascLn l L)) ∧ Below w.heap.size w w' := by
  have HH := uh h
  have HRL := uh hr0
  obtain ⟨a, c, ev⟩ := h.len0
  subst ev
  have hl : L.length ≤ maxLen := by
    rcases lns_open h with ⟨e, _⟩ | ⟨_, _, _, _, _, e, _⟩
    · omega
    · exact e
  unfold maxLen at hl
  obtain ⟨R, hR⟩ : ∃ R, R = ascLn l L := ⟨_, rfl⟩
  have HR : Hid (R = ascLn l L) := hR
  rw [← hR]
  clear h hR hr0
  go_enter Try.func45, Try.ntmps45
  go_wp2
  go_loopw [5] (fun i wr => ∃ j : Nat, j ≤ L.length - 1 ∧ i = .int .i64 ((j + 1 : Nat) : Int) ∧ (List.range j).all (fun i => decide (cmpLn l (L.getD i Pl.lnNo) (L.getD (i + 1) Pl.lnNo) < 0)) = true ∧ Below w.heap.size w wr) (fun i _ => L.length - (intOf i).toNat)
  case atStart => exact ⟨0, Nat.zero_le _, rfl, rfl, Below.refl _ _⟩
  case round =>
    obtain ⟨j, hj, rfl, hq, hW⟩ := hrel
    have HQ := uh hq
    clear hq
    by_cases hlt : j + 1 < L.length
    · obtain ⟨x, hx⟩ : ∃ x, x = L.getD j Pl.lnNo := ⟨_, rfl⟩
      obtain ⟨y, hy⟩ : ∃ y, y = L.getD (j + 1) Pl.lnNo := ⟨_, rfl⟩
      have HWD := uh hW.drew
      rcases lns_open (HH.out.later hW.drew) with ⟨e0, _⟩ | ⟨p, o, c', hv, hp, _, hopen⟩
      · omega
      injection hv with g1 _ g3
      subst g1; subst g3
      obtain ⟨ax, cx, hgx, hrx⟩ := hopen j (by omega)
      obtain ⟨ay, cy, hgy, hry⟩ := hopen (j + 1) hlt
      rw [← hx] at hgx hrx
      rw [← hy] at hgy hry
      have x0 : wr.drew.cell? ⟨p, o + j * 2, none⟩ = some (.string x.key) := rA_get hgx 0 _ rfl
      have x1 : wr.drew.cell? ⟨p, o + j * 2 + 1, none⟩ = some (.slice ax x.ws.length cx) := rA_get hgx 1 _ rfl
      have y0 : wr.drew.cell? ⟨p, o + (j + 1) * 2, none⟩ = some (.string y.key) := rA_get hgy 0 _ rfl
      have y1 : wr.drew.cell? ⟨p, o + (j + 1) * 2 + 1, none⟩ = some (.slice ay y.ws.length cy) := rA_get hgy 1 _ rfl
      clear hW hopen hgx hgy
      obtain ⟨r, hr⟩ : ∃ r, r = cmpLn l x y := ⟨_, rfl⟩
      have HXX : Hid (∀ W, Below w.heap.size w W → Below wr.drew.heap.size wr.drew W → Calls Try.prog 46 #[.agg #[.slice va l.length vc], .agg #[.string x.key, .slice ax x.ws.length cx], .agg #[.string y.key, .slice ay y.ws.length cy]] W fun e w' => e = .returned (.int .i64 r) ∧ Below W.heap.size W w') := fun W hb => by
        rw [hr]
        exact fun h2 => cmpLnI l va vc x y ax ay cx cy W hl0 (HRL.out.later hb) (hrx.later h2) (hry.later h2)
      have HP : Hid ((fun i => decide (cmpLn l (L.getD i Pl.lnNo) (L.getD (i + 1) Pl.lnNo) < 0)) j = decide (r < 0)) := by show decide _ = _; rw [hr, hx, hy]
      clear hr hx hy hrx hry
      by_cases hz : r < 0
      · have HE := uh (Pl.rall_step HQ.out (HP.out.trans (decide_eq_true hz)))
        go_wp2_with fail
        refine region_tail 10 (by kernel_rfl) (by kernel_rfl) ?_
        intro W hWd
        rw [← hWd] at hp HWD x0 x1 y0 y1
        simp only [List.take_succ_cons, List.take_zero, List.drop_succ_cons, List.drop_zero]
        have HWX : Hid (W = wr.drew) := hWd
        clear hWd
        have hj0 : (0 : Int) ≤ (j : Int) := by omega
        have hj1 : (j : Int) < (L.length : Int) := by omega
        have hj2 : (0 : Int) ≤ (j : Int) + 1 := by omega
        have hj3 : (j : Int) + 1 < (L.length : Int) := by omega
        have hjw : IntKind.i64.wrap (j : Int) = (j : Int) := wrapI _ (by omega) (by omega)
        have HX := uh (HXX.out W HWD.out (by rw [HWX.out]; exact Below.refl _ _))
        repeat still_step
        refine wpStill_nil ?_
        go_wp2_with (go_at_call 46; refine HX.out.mono ?_; rintro e w2 ⟨rfl, hb2⟩)
        go_roundw
        case rel => exact ⟨j + 1, by omega, by go_num, HE.out, blw_trans HWD.out hb2⟩
        case measure => simp [intOf]; omega
      · have HE : Hid (R = false) := by show R = false; rw [HR.out]; exact Pl.rall_false (k := j) (by omega) (HP.out.trans (decide_eq_false hz))
        go_wp2_with fail
        refine region_tail 10 (by kernel_rfl) (by kernel_rfl) ?_
        intro W hWd
        rw [← hWd] at hp HWD x0 x1 y0 y1
        simp only [List.take_succ_cons, List.take_zero, List.drop_succ_cons, List.drop_zero]
        have HWX : Hid (W = wr.drew) := hWd
        clear hWd
        have hj0 : (0 : Int) ≤ (j : Int) := by omega
        have hj1 : (j : Int) < (L.length : Int) := by omega
        have hj2 : (0 : Int) ≤ (j : Int) + 1 := by omega
        have hj3 : (j : Int) + 1 < (L.length : Int) := by omega
        have hjw : IntKind.i64.wrap (j : Int) = (j : Int) := wrapI _ (by omega) (by omega)
        have HX := uh (HXX.out W HWD.out (by rw [HWX.out]; exact Below.refl _ _))
        repeat still_step
        refine wpStill_nil ?_
        go_wp2_with (go_at_call 46; refine HX.out.mono ?_; rintro e w2 ⟨rfl, hb2⟩)
        go_ret
        exact ⟨Pl.ret_bool HE.out.symm, blw_trans HWD.out hb2⟩
    · have HE : Hid (R = true) := by
        show R = true
        rw [HR.out]
        have : j = L.length - 1 := by omega
        rw [this] at HQ; exact HQ.out
      go_wp2
      go_ret
      exact ⟨Pl.ret_bool HE.out.symm, hW⟩

def ascBl  (L : List Pl.Bl) : Bool := (List.range (L.length - 1)).all fun i => decide (cmpBl (L.getD i Pl.blNo) (L.getD (i + 1) Pl.blNo) < 0)
set_option maxRecDepth 8000 in
set_option maxHeartbeats 8000000 in
theorem ascBlI  (L : List Pl.Bl) (v : Value) (w : World) (h : Raw w shBls [blsD L] [v]) :
    Calls Try.prog 26 #[v, .func (.func 27) #[] #[]] w fun e w' => e = .returned (.bool (ascBl L)) ∧ Below w.heap.size w w' := by
  have HH := uh h
  obtain ⟨a, c, ev⟩ := h.len0
  subst ev
  have hl : L.length ≤ maxLen := by
    rcases bls_open h with ⟨e, _⟩ | ⟨_, _, _, _, _, e, _⟩
    · omega
    · exact e
  unfold maxLen at hl
  obtain ⟨R, hR⟩ : ∃ R, R = ascBl L := ⟨_, rfl⟩
  have HR : Hid (R = ascBl L) := hR
  rw [← hR]
  clear h hR
  go_enter Try.func26, Try.ntmps26
  go_wp2
  go_loopw [5] (fun i wr => ∃ j : Nat, j ≤ L.length - 1 ∧ i = .int .i64 ((j + 1 : Nat) : Int) ∧ (List.range j).all (fun i => decide (cmpBl (L.getD i Pl.blNo) (L.getD (i + 1) Pl.blNo) < 0)) = true ∧ Below w.heap.size w wr) (fun i _ => L.length - (intOf i).toNat)
  case atStart => exact ⟨0, Nat.zero_le _, rfl, rfl, Below.refl _ _⟩
  case round =>
    obtain ⟨j, hj, rfl, hq, hW⟩ := hrel
    have HQ := uh hq
    clear hq
    by_cases hlt : j + 1 < L.length
    · obtain ⟨x, hx⟩ : ∃ x, x = L.getD j Pl.blNo := ⟨_, rfl⟩
      obtain ⟨y, hy⟩ : ∃ y, y = L.getD (j + 1) Pl.blNo := ⟨_, rfl⟩
      have HWD := uh hW.drew
      rcases bls_open (HH.out.later hW.drew) with ⟨e0, _⟩ | ⟨p, o, c', hv, hp, _, hopen⟩
      · omega
      injection hv with g1 _ g3
      subst g1; subst g3
      obtain ⟨ax, cx, hgx, hrx⟩ := hopen j (by omega)
      obtain ⟨ay, cy, hgy, hry⟩ := hopen (j + 1) hlt
      rw [← hx] at hgx hrx
      rw [← hy] at hgy hry
      have x0 : wr.drew.cell? ⟨p, o + j * 3, none⟩ = some (.string x.kind) := rA_get hgx 0 _ rfl
      have x1 : wr.drew.cell? ⟨p, o + j * 3 + 1, none⟩ = some (.string x.name) := rA_get hgx 1 _ rfl
      have x2 : wr.drew.cell? ⟨p, o + j * 3 + 2, none⟩ = some (.slice ax x.lines.length cx) := rA_get hgx 2 _ rfl
      have y0 : wr.drew.cell? ⟨p, o + (j + 1) * 3, none⟩ = some (.string y.kind) := rA_get hgy 0 _ rfl
      have y1 : wr.drew.cell? ⟨p, o + (j + 1) * 3 + 1, none⟩ = some (.string y.name) := rA_get hgy 1 _ rfl
      have y2 : wr.drew.cell? ⟨p, o + (j + 1) * 3 + 2, none⟩ = some (.slice ay y.lines.length cy) := rA_get hgy 2 _ rfl
      clear hW hopen hgx hgy
      obtain ⟨r, hr⟩ : ∃ r, r = cmpBl x y := ⟨_, rfl⟩
      have HXX : Hid (∀ W, Below w.heap.size w W → Calls Try.prog 27 #[.agg #[.string x.kind, .string x.name, .slice ax x.lines.length cx], .agg #[.string y.kind, .string y.name, .slice ay y.lines.length cy]] W fun e w' => e = .returned (.int .i64 r) ∧ Below W.heap.size W w') := fun W _ => by rw [hr]; exact cmpBlI _ _ _ _ _ _ W
      have HP : Hid ((fun i => decide (cmpBl (L.getD i Pl.blNo) (L.getD (i + 1) Pl.blNo) < 0)) j = decide (r < 0)) := by show decide _ = _; rw [hr, hx, hy]
      clear hr hx hy hrx hry
      by_cases hz : r < 0
      · have HE := uh (Pl.rall_step HQ.out (HP.out.trans (decide_eq_true hz)))
        go_wp2_with fail
        refine region_tail 10 (by kernel_rfl) (by kernel_rfl) ?_
        intro W hWd
        rw [← hWd] at hp HWD x0 x1 x2 y0 y1 y2
        simp only [List.take_succ_cons, List.take_zero, List.drop_succ_cons, List.drop_zero]
        clear hWd
        have hj0 : (0 : Int) ≤ (j : Int) := by omega
        have hj1 : (j : Int) < (L.length : Int) := by omega
        have hj2 : (0 : Int) ≤ (j : Int) + 1 := by omega
        have hj3 : (j : Int) + 1 < (L.length : Int) := by omega
        have hjw : IntKind.i64.wrap (j : Int) = (j : Int) := wrapI _ (by omega) (by omega)
        have HX := uh (HXX.out W HWD.out)
        repeat still_step
        refine wpStill_nil ?_
        go_wp2_with (go_at_call 27; refine HX.out.mono ?_; rintro e w2 ⟨rfl, hb2⟩)
        go_roundw
        case rel => exact ⟨j + 1, by omega, by go_num, HE.out, blw_trans HWD.out hb2⟩
        case measure => simp [intOf]; omega
      · have HE : Hid (R = false) := by show R = false; rw [HR.out]; exact Pl.rall_false (k := j) (by omega) (HP.out.trans (decide_eq_false hz))
        go_wp2_with fail
        refine region_tail 10 (by kernel_rfl) (by kernel_rfl) ?_
        intro W hWd
        rw [← hWd] at hp HWD x0 x1 x2 y0 y1 y2
        simp only [List.take_succ_cons, List.take_zero, List.drop_succ_cons, List.drop_zero]
        clear hWd
        have hj0 : (0 : Int) ≤ (j : Int) := by omega
        have hj1 : (j : Int) < (L.length : Int) := by omega
        have hj2 : (0 : Int) ≤ (j : Int) + 1 := by omega
        have hj3 : (j : Int) + 1 < (L.length : Int) := by omega
        have hjw : IntKind.i64.wrap (j : Int) = (j : Int) := wrapI _ (by omega) (by omega)
        have HX := uh (HXX.out W HWD.out)
        repeat still_step
        refine wpStill_nil ?_
        go_wp2_with (go_at_call 27; refine HX.out.mono ?_; rintro e w2 ⟨rfl, hb2⟩)
        go_ret
        exact ⟨Pl.ret_bool HE.out.symm, blw_trans HWD.out hb2⟩
    · have HE : Hid (R = true) := by
        show R = true
        rw [HR.out]
        have : j = L.length - 1 := by omega
        rw [this] at HQ; exact HQ.out
      go_wp2
      go_ret
      exact ⟨Pl.ret_bool HE.out.symm, hW⟩

end Go.Proofs.Ythmaeeakmmblkaa
