/-
  Sheets: lists that ascend: the program.
-/
import Derived.Test.YtikacjpbnoihjaaEIf
import Derived.Test.YtikacjpbnoihjaaEIc
import Derived.Test.YtikacjpbnoihjaaEBy
namespace Go.Proofs.Ytikacjpbnoihjaa
open Go.RowKit Go.Deep

def cmpLn (l : List Pl.Ru) (x y : Pl.Ln) : Int := pick2 (numCmp (Pl.ixI (Pl.ruIx l x.key)) (Pl.ixI (Pl.ruIx l y.key))) (cmpW x.ws y.ws)
def VCl9 (b0 : Nat) (vc : Nat) (c1 : Nat) (c2 : Nat) (va : Option Addr) (a1 : Option Addr) (a2 : Option Addr) (l : List Pl.Ru) (x : Pl.Ln) (y : Pl.Ln) : Nat → Value → World → Prop
  | 0, vv, _ => vv = .agg #[.slice va l.length vc]
  | 1, vv, _ => vv = .pointer (some ⟨(b0 + 1), 0, none⟩)
  | 2, vv, _ => vv = .string x.key
  | 3, vv, _ => vv = .int .i64 (Pl.ixI (Pl.ruIx l x.key))
  | 4, vv, _ => vv = .agg #[.slice va l.length vc]
  | 5, vv, _ => vv = .pointer (some ⟨(b0 + 2), 0, none⟩)
  | 6, vv, _ => vv = .string y.key
  | 7, vv, _ => vv = .int .i64 (Pl.ixI (Pl.ruIx l y.key))
  | 8, vv, _ => vv = .int .i64 (numCmp (Pl.ixI (Pl.ruIx l x.key)) (Pl.ixI (Pl.ruIx l y.key)))
  | 9, vv, _ => vv = .pointer (some ⟨(b0 + 1), 1, none⟩)
  | 10, vv, _ => vv = .slice a1 x.ws.length c1
  | 11, vv, _ => vv = .pointer (some ⟨(b0 + 2), 1, none⟩)
  | 12, vv, _ => vv = .slice a2 y.ws.length c2
  | 13, vv, _ => vv = .int .i64 (cmpW x.ws y.ws)
  | 14, vv, W => ∃ g, vv = .slice (some ⟨g, 0, none⟩) 2 2 ∧ W.cell? ⟨g, 0, none⟩ = some (.int .i64 (numCmp (Pl.ixI (Pl.ruIx l x.key)) (Pl.ixI (Pl.ruIx l y.key)))) ∧ W.cell? ⟨g, 1, none⟩ = some (.int .i64 (cmpW x.ws y.ws)) ∧ g < W.heap.size
  | 15, vv, _ => vv = .int .i64 (cmpLn l x y)
  | 16, vv, _ => vv = .int .i64 (cmpLn l x y)
  | _, _, _ => True
theorem VCl9_mono (b0 : Nat) (vc : Nat) (c1 : Nat) (c2 : Nat) (va : Option Addr) (a1 : Option Addr) (a2 : Option Addr) (l : List Pl.Ru) (x : Pl.Ln) (y : Pl.Ln) : ∀ jj vv W W', Below W.heap.size W W' → VCl9 b0 vc c1 c2 va a1 a2 l x y jj vv W → VCl9 b0 vc c1 c2 va a1 a2 l x y jj vv W' := by
  intro jj vv W W' hb h
  match jj with
  | 0 => exact h
  | 1 => exact h
  | 2 => exact h
  | 3 => exact h
  | 4 => exact h
  | 5 => exact h
  | 6 => exact h
  | 7 => exact h
  | 8 => exact h
  | 9 => exact h
  | 10 => exact h
  | 11 => exact h
  | 12 => exact h
  | 13 => exact h
  | 14 =>
    obtain ⟨g, h1, h2, h3, h4⟩ := h
    exact ⟨g, h1, (hb.cell (p := ⟨g, 0, none⟩) h4).trans h2, (hb.cell (p := ⟨g, 1, none⟩) h4).trans h3, Nat.lt_of_lt_of_le h4 hb.size⟩
  | 15 => exact h
  | 16 => exact h
  | n + 17 => exact trivial

set_option maxRecDepth 8000 in
set_option maxHeartbeats 8000000 in
theorem cmpLnI (l : List Pl.Ru) (va : Option Addr) (vc : Nat) (x y : Pl.Ln) (a1 a2 : Option Addr) (c1 c2 : Nat) (w : World) (hl : l.length ≤ 100) (h : Raw w [.row 48 shSheetRule] [rulesD l] [.slice va l.length vc]) (hx : Raw w shTxs [.row x.ws.length (txD x.ws)] [.slice a1 x.ws.length c1]) (hy : Raw w shTxs [.row y.ws.length (txD y.ws)] [.slice a2 y.ws.length c2]) :
    Calls Try.prog 62 #[.agg #[.slice va l.length vc], .agg #[.string x.key, .slice a1 x.ws.length c1], .agg #[.string y.key, .slice a2 y.ws.length c2]] w fun e w' => e = .returned (.int .i64 (cmpLn l x y)) ∧ Below w.heap.size w w' := by
  obtain ⟨wa, hwa⟩ : ∃ wa, wa = ((w.alloc (.cells #[.slice va l.length vc] 59)).alloc (.cells #[.string x.key, .slice a1 x.ws.length c1] 52)).alloc (.cells #[.string y.key, .slice a2 y.ws.length c2] 52) := ⟨_, rfl⟩
  obtain ⟨b0, hb0⟩ : ∃ b0, b0 = w.heap.size := ⟨_, rfl⟩
  have HB : Hid (Below w.heap.size w wa) := by show Below _ _ _; rw [hwa]; exact blw_alloc (blw_alloc (blw_alloc (Below.refl _ _) _) _) _
  have HK0 : Hid (LBox wa b0 [.slice va l.length vc]) := by show LBox _ _ _; rw [hwa, hb0]; exact ((LBox.new w #[.slice va l.length vc] _ _ rfl).past _).past _
  have HK1 : Hid (LBox wa (b0 + 1) [.string x.key, .slice a1 x.ws.length c1]) := by show LBox _ _ _; rw [hwa, hb0]; exact (LBox.new (w.alloc (.cells #[.slice va l.length vc] 59)) #[.string x.key, .slice a1 x.ws.length c1] _ _ (by simp)).past _
  have HK2 : Hid (LBox wa (b0 + 2) [.string y.key, .slice a2 y.ws.length c2]) := by show LBox _ _ _; rw [hwa, hb0]; exact LBox.new ((w.alloc (.cells #[.slice va l.length vc] 59)).alloc (.cells #[.string x.key, .slice a1 x.ws.length c1] 52)) #[.string y.key, .slice a2 y.ws.length c2] _ _ (by simp)
  have HRW := uh (h.later HB.out)
  have HXW := uh (hx.later HB.out)
  have HYW := uh (hy.later HB.out)
  have HL := uh hl
  clear h hx hy hl
  go_enter Try.func62, Try.ntmps62
  go_upto_region 1 with fail
  rw [← hwa, ← hb0]
  clear hwa hb0
  refine RY.region_past wa (Below.refl _ _) (VCl9 b0 vc c1 c2 va a1 a2 l x y) (VCl9_mono _ _ _ _ _ _ _ _ _ _) (by kernel_rfl) (by kernel_rfl) (by kernel_rfl) (by kernel_rfl) ?_ ?_
  · intro ii o' ho a X hX hk hd
    have zb0 := HK0.out.later hX
    have zb0l := zb0.lt
    have z_b0___1_ := HK1.out.later hX
    have z_b0___1_l := z_b0___1_.lt
    have z_b0___2_ := HK2.out.later hX
    have z_b0___2_l := z_b0___2_.lt
    match ii, ho with
    | 0, ho =>
      injection ho with ho; subst ho
      have v3 : a.eval (.tmp 3) = .pointer (some ⟨b0, 0, none⟩) := (hk 3 (by kernel_rfl)).trans rfl
      exact Or.inl ⟨_, X, exec_load_mid 59 _ rfl b0 0 v3 [.slice va l.length vc] _ zb0.at_ Try.underlying59 rfl (by kernel_rfl), Below.refl _ _, rfl⟩
    | 1, ho =>
      injection ho with ho; subst ho
      have e4 : a.tmps[4]?.getD undef = .pointer (some ⟨(b0 + 1), 0, none⟩) := (RY.ev_tmp a 4).trans ((hk 4 (by kernel_rfl)).trans rfl)
      exact Or.inl ⟨.pointer (some ⟨(b0 + 1), 0, none⟩), X, by simp [execOp, go_sem, e4], Below.refl _ _, rfl⟩
    | 2, ho =>
      injection ho with ho; subst ho
      have e8 : a.tmps[8]?.getD undef = .pointer (some ⟨(b0 + 1), 0, none⟩) := (RY.ev_tmp a 8).trans (hd 1 _ 8 rfl rfl ⟨⟨1, .data⟩, by simp, rfl, rfl⟩)
      have ycl_ := z_b0___1_.get 0 _ rfl
      exact Or.inl ⟨.string x.key, X, by simp [execOp, go_sem, e8, ycl_], Below.refl _ _, rfl⟩
    | 3, ho =>
      injection ho with ho; subst ho
      have e7 : a.tmps[7]?.getD undef = .agg #[.slice va l.length vc] := (RY.ev_tmp a 7).trans (hd 0 _ 7 rfl rfl ⟨⟨0, .data⟩, by simp, rfl, rfl⟩)
      have e9 : a.tmps[9]?.getD undef = .string x.key := (RY.ev_tmp a 9).trans (hd 2 _ 9 rfl rfl ⟨⟨2, .data⟩, by simp, rfl, rfl⟩)
      refine Or.inr ⟨45, #[.agg #[.slice va l.length vc], .string x.key], by simp [go_sem, e7, e9], (placeI l va vc x.key X HL.out (HRW.out.later hX)).mono ?_⟩
      rintro e W' ⟨rfl, hb⟩
      exact ⟨_, rfl, hb, rfl⟩
    | 4, ho =>
      injection ho with ho; subst ho
      have v3 : a.eval (.tmp 3) = .pointer (some ⟨b0, 0, none⟩) := (hk 3 (by kernel_rfl)).trans rfl
      exact Or.inl ⟨_, X, exec_load_mid 59 _ rfl b0 0 v3 [.slice va l.length vc] _ zb0.at_ Try.underlying59 rfl (by kernel_rfl), Below.refl _ _, rfl⟩
    | 5, ho =>
      injection ho with ho; subst ho
      have e5 : a.tmps[5]?.getD undef = .pointer (some ⟨(b0 + 2), 0, none⟩) := (RY.ev_tmp a 5).trans ((hk 5 (by kernel_rfl)).trans rfl)
      exact Or.inl ⟨.pointer (some ⟨(b0 + 2), 0, none⟩), X, by simp [execOp, go_sem, e5], Below.refl _ _, rfl⟩
    | 6, ho =>
      injection ho with ho; subst ho
      have e12 : a.tmps[12]?.getD undef = .pointer (some ⟨(b0 + 2), 0, none⟩) := (RY.ev_tmp a 12).trans (hd 5 _ 12 rfl rfl ⟨⟨5, .data⟩, by simp, rfl, rfl⟩)
      have ycl_ := z_b0___2_.get 0 _ rfl
      exact Or.inl ⟨.string y.key, X, by simp [execOp, go_sem, e12, ycl_], Below.refl _ _, rfl⟩
    | 7, ho =>
      injection ho with ho; subst ho
      have e11 : a.tmps[11]?.getD undef = .agg #[.slice va l.length vc] := (RY.ev_tmp a 11).trans (hd 4 _ 11 rfl rfl ⟨⟨4, .data⟩, by simp, rfl, rfl⟩)
      have e13 : a.tmps[13]?.getD undef = .string y.key := (RY.ev_tmp a 13).trans (hd 6 _ 13 rfl rfl ⟨⟨6, .data⟩, by simp, rfl, rfl⟩)
      refine Or.inr ⟨45, #[.agg #[.slice va l.length vc], .string y.key], by simp [go_sem, e11, e13], (placeI l va vc y.key X HL.out (HRW.out.later hX)).mono ?_⟩
      rintro e W' ⟨rfl, hb⟩
      exact ⟨_, rfl, hb, rfl⟩
    | 8, ho =>
      injection ho with ho; subst ho
      have e10 : a.tmps[10]?.getD undef = .int .i64 (Pl.ixI (Pl.ruIx l x.key)) := (RY.ev_tmp a 10).trans (hd 3 _ 10 rfl rfl ⟨⟨3, .data⟩, by simp, rfl, rfl⟩)
      have e14 : a.tmps[14]?.getD undef = .int .i64 (Pl.ixI (Pl.ruIx l y.key)) := (RY.ev_tmp a 14).trans (hd 7 _ 14 rfl rfl ⟨⟨7, .data⟩, by simp, rfl, rfl⟩)
      refine Or.inr ⟨73, #[.int .i64 (Pl.ixI (Pl.ruIx l x.key)), .int .i64 (Pl.ixI (Pl.ruIx l y.key))], by simp [go_sem, e10, e14], (cmpI (Pl.ixI (Pl.ruIx l x.key)) (Pl.ixI (Pl.ruIx l y.key)) X).mono ?_⟩
      rintro e W' ⟨rfl, rfl⟩
      exact ⟨_, rfl, Below.refl _ _, rfl⟩
    | 9, ho =>
      injection ho with ho; subst ho
      have e4 : a.tmps[4]?.getD undef = .pointer (some ⟨(b0 + 1), 0, none⟩) := (RY.ev_tmp a 4).trans ((hk 4 (by kernel_rfl)).trans rfl)
      exact Or.inl ⟨.pointer (some ⟨(b0 + 1), 1, none⟩), X, by simp [execOp, go_sem, e4], Below.refl _ _, rfl⟩
    | 10, ho =>
      injection ho with ho; subst ho
      have e16 : a.tmps[16]?.getD undef = .pointer (some ⟨(b0 + 1), 1, none⟩) := (RY.ev_tmp a 16).trans (hd 9 _ 16 rfl rfl ⟨⟨9, .data⟩, by simp, rfl, rfl⟩)
      have ycl_ := z_b0___1_.get 1 _ rfl
      exact Or.inl ⟨.slice a1 x.ws.length c1, X, by simp [execOp, go_sem, e16, ycl_], Below.refl _ _, rfl⟩
    | 11, ho =>
      injection ho with ho; subst ho
      have e5 : a.tmps[5]?.getD undef = .pointer (some ⟨(b0 + 2), 0, none⟩) := (RY.ev_tmp a 5).trans ((hk 5 (by kernel_rfl)).trans rfl)
      exact Or.inl ⟨.pointer (some ⟨(b0 + 2), 1, none⟩), X, by simp [execOp, go_sem, e5], Below.refl _ _, rfl⟩
    | 12, ho =>
      injection ho with ho; subst ho
      have e18 : a.tmps[18]?.getD undef = .pointer (some ⟨(b0 + 2), 1, none⟩) := (RY.ev_tmp a 18).trans (hd 11 _ 18 rfl rfl ⟨⟨11, .data⟩, by simp, rfl, rfl⟩)
      have ycl_ := z_b0___2_.get 1 _ rfl
      exact Or.inl ⟨.slice a2 y.ws.length c2, X, by simp [execOp, go_sem, e18, ycl_], Below.refl _ _, rfl⟩
    | 13, ho =>
      injection ho with ho; subst ho
      have e17 : a.tmps[17]?.getD undef = .slice a1 x.ws.length c1 := (RY.ev_tmp a 17).trans (hd 10 _ 17 rfl rfl ⟨⟨10, .data⟩, by simp, rfl, rfl⟩)
      have e19 : a.tmps[19]?.getD undef = .slice a2 y.ws.length c2 := (RY.ev_tmp a 19).trans (hd 12 _ 19 rfl rfl ⟨⟨12, .data⟩, by simp, rfl, rfl⟩)
      refine Or.inr ⟨74, #[.slice a1 x.ws.length c1, .slice a2 y.ws.length c2], by simp [go_sem, e17, e19], (cmpWsI x.ws y.ws _ _ X (HXW.out.later hX) (HYW.out.later hX)).mono ?_⟩
      rintro e W' ⟨rfl, rfl⟩
      exact ⟨_, rfl, Below.refl _ _, rfl⟩
    | 14, ho =>
      injection ho with ho; subst ho
      have e15 : a.tmps[15]?.getD undef = .int .i64 (numCmp (Pl.ixI (Pl.ruIx l x.key)) (Pl.ixI (Pl.ruIx l y.key))) := (RY.ev_tmp a 15).trans (hd 8 _ 15 rfl rfl ⟨⟨8, .data⟩, by simp, rfl, rfl⟩)
      have e20 : a.tmps[20]?.getD undef = .int .i64 (cmpW x.ws y.ws) := (RY.ev_tmp a 20).trans (hd 13 _ 20 rfl rfl ⟨⟨13, .data⟩, by simp, rfl, rfl⟩)
      exact Or.inl ⟨.slice (some ⟨X.heap.size, 0, none⟩) 2 2, X.alloc (.cells #[.int .i64 (numCmp (Pl.ixI (Pl.ruIx l x.key)) (Pl.ixI (Pl.ruIx l y.key))), .int .i64 (cmpW x.ws y.ws)] 3), by simp [execOp, go_sem, e15, e20], blw_alloc (Below.refl _ _) _, X.heap.size, rfl, World.cell?_alloc_at _ _ _ _ rfl, World.cell?_alloc_at _ _ _ _ rfl, by simp⟩
    | 15, ho =>
      injection ho with ho; subst ho
      obtain ⟨g21, q21, qa21, qb21, _⟩ := hd 14 _ 21 rfl rfl ⟨⟨14, .data⟩, by simp, rfl, rfl⟩
      have e21 : a.tmps[21]?.getD undef = .slice (some ⟨g21, 0, none⟩) 2 2 := (RY.ev_tmp a 21).trans q21
      refine Or.inr ⟨43, #[.slice (some ⟨g21, 0, none⟩) 2 2], by simp [go_sem, e21], (cmpOr2 g21 2 (numCmp (Pl.ixI (Pl.ruIx l x.key)) (Pl.ixI (Pl.ruIx l y.key))) (cmpW x.ws y.ws) X qa21 qb21).mono ?_⟩
      rintro e W' ⟨rfl, rfl⟩
      exact ⟨_, rfl, Below.refl _ _, rfl⟩
    | 16, ho =>
      injection ho with ho; subst ho
      have e22 : a.tmps[22]?.getD undef = .int .i64 (cmpLn l x y) := (RY.ev_tmp a 22).trans (hd 15 _ 22 rfl rfl ⟨⟨15, .data⟩, by simp, rfl, rfl⟩)
      exact Or.inl ⟨.int .i64 (cmpLn l x y), X, by simp [execOp, go_sem, e22], Below.refl _ _, rfl⟩
    | n + 17, ho => simp at ho
  intro X vs hX hvs
  have q6 : vs 6 = _ := hvs 16 _ 6 rfl rfl
  simp only [RY.putAll, Act.put, List.setIfInBounds_toArray, List.set_cons_zero, List.set_cons_succ]
  rw [q6]
  generalize vs 7 = s7
  generalize vs 8 = s8
  generalize vs 9 = s9
  generalize vs 10 = s10
  generalize vs 11 = s11
  generalize vs 12 = s12
  generalize vs 13 = s13
  generalize vs 14 = s14
  generalize vs 15 = s15
  generalize vs 16 = s16
  generalize vs 17 = s17
  generalize vs 18 = s18
  generalize vs 19 = s19
  generalize vs 20 = s20
  generalize vs 21 = s21
  generalize vs 22 = s22
  clear hvs q6
  go_wp2
  go_ret
  exact ⟨rfl, blw_trans HB.out hX⟩

end Go.Proofs.Ytikacjpbnoihjaa

namespace Go.Proofs.Ytikacjpbnoihjaa
open Go.RowKit Go.Deep

def ascLn (l : List Pl.Ru) (L : List Pl.Ln) : Bool := (List.range (L.length - 1)).all fun i => decide (cmpLn l (L.getD i Pl.lnNo) (L.getD (i + 1) Pl.lnNo) < 0)
set_option maxRecDepth 8000 in
set_option maxHeartbeats 8000000 in
theorem ascLnI (l : List Pl.Ru) (va : Option Addr) (vc : Nat) (hl0 : l.length ≤ 100) (L : List Pl.Ln) (v : Value) (w : World) (hr0 : Raw w [.row 48 shSheetRule] [rulesD l] [.slice va l.length vc]) (h : Raw w shLns [lnsD L] [v]) :
    Calls Try.prog 61 #[v, .func (.func 62) #[.agg #[.slice va l.length vc]] #[]] w fun e w' => e = .returned (.bool (ascLn l L)) ∧ Below w.heap.size w w' := by
  have HH := uh h
  have HRL := uh hr0
  obtain ⟨a, c, ev⟩ := h.len0
  subst ev
  have hl : L.length ≤ maxLen := by
    rcases lns_open h with ⟨e, _⟩ | ⟨_, _, _, _, _, e, _⟩
    · omega
    · exact e
  unfold maxLen at hl
  obtain ⟨R, hR⟩ : ∃ R, R = ascLn l L := ⟨_, rfl⟩
  have HR : Hid (R = ascLn l L) := hR
  rw [← hR]
  clear h hR hr0
  go_enter Try.func61, Try.ntmps61
  go_wp2
  go_loopw [5] (fun i wr => ∃ j : Nat, j ≤ L.length - 1 ∧ i = .int .i64 ((j + 1 : Nat) : Int) ∧ (List.range j).all (fun i => decide (cmpLn l (L.getD i Pl.lnNo) (L.getD (i + 1) Pl.lnNo) < 0)) = true ∧ Below w.heap.size w wr) (fun i _ => L.length - (intOf i).toNat)
  case atStart => exact ⟨0, Nat.zero_le _, rfl, rfl, Below.refl _ _⟩
  case round =>
    obtain ⟨j, hj, rfl, hq, hW⟩ := hrel
    have HQ := uh hq
    clear hq
    by_cases hlt : j + 1 < L.length
    · obtain ⟨x, hx⟩ : ∃ x, x = L.getD j Pl.lnNo := ⟨_, rfl⟩
      obtain ⟨y, hy⟩ : ∃ y, y = L.getD (j + 1) Pl.lnNo := ⟨_, rfl⟩
      have HWD := uh hW.drew
      rcases lns_open (HH.out.later hW.drew) with ⟨e0, _⟩ | ⟨p, o, c', hv, hp, _, hopen⟩
      · omega
      injection hv with g1 _ g3
      subst g1; subst g3
      obtain ⟨ax, cx, hgx, hrx⟩ := hopen j (by omega)
      obtain ⟨ay, cy, hgy, hry⟩ := hopen (j + 1) hlt
      rw [← hx] at hgx hrx
      rw [← hy] at hgy hry
      have x0 : wr.drew.cell? ⟨p, o + j * 2, none⟩ = some (.string x.key) := rA_get hgx 0 _ rfl
      have x1 : wr.drew.cell? ⟨p, o + j * 2 + 1, none⟩ = some (.slice ax x.ws.length cx) := rA_get hgx 1 _ rfl
      have y0 : wr.drew.cell? ⟨p, o + (j + 1) * 2, none⟩ = some (.string y.key) := rA_get hgy 0 _ rfl
      have y1 : wr.drew.cell? ⟨p, o + (j + 1) * 2 + 1, none⟩ = some (.slice ay y.ws.length cy) := rA_get hgy 1 _ rfl
      clear hW hopen hgx hgy
      obtain ⟨r, hr⟩ : ∃ r, r = cmpLn l x y := ⟨_, rfl⟩
      have HXX : Hid (∀ W, Below w.heap.size w W → Below wr.drew.heap.size wr.drew W → Calls Try.prog 62 #[.agg #[.slice va l.length vc], .agg #[.string x.key, .slice ax x.ws.length cx], .agg #[.string y.key, .slice ay y.ws.length cy]] W fun e w' => e = .returned (.int .i64 r) ∧ Below W.heap.size W w') := fun W hb => by
        rw [hr]
        exact fun h2 => cmpLnI l va vc x y ax ay cx cy W hl0 (HRL.out.later hb) (hrx.later h2) (hry.later h2)
      have HP : Hid ((fun i => decide (cmpLn l (L.getD i Pl.lnNo) (L.getD (i + 1) Pl.lnNo) < 0)) j = decide (r < 0)) := by show decide _ = _; rw [hr, hx, hy]
      clear hr hx hy hrx hry
      by_cases hz : r < 0
      · have HE := uh (Pl.rall_step HQ.out (HP.out.trans (decide_eq_true hz)))
        go_wp2_with fail
        refine region_tail 10 (by kernel_rfl) (by kernel_rfl) ?_
        intro W hWd
        rw [← hWd] at hp HWD x0 x1 y0 y1
        simp only [List.take_succ_cons, List.take_zero, List.drop_succ_cons, List.drop_zero]
        have HWX : Hid (W = wr.drew) := hWd
        clear hWd
        have hj0 : (0 : Int) ≤ (j : Int) := by omega
        have hj1 : (j : Int) < (L.length : Int) := by omega
        have hj2 : (0 : Int) ≤ (j : Int) + 1 := by omega
        have hj3 : (j : Int) + 1 < (L.length : Int) := by omega
        have hjw : IntKind.i64.wrap (j : Int) = (j : Int) := wrapI _ (by omega) (by omega)
        have HX := uh (HXX.out W HWD.out (by rw [HWX.out]; exact Below.refl _ _))
        repeat still_step
        refine wpStill_nil ?_
        go_wp2_with (go_at_call 62; refine HX.out.mono ?_; rintro e w2 ⟨rfl, hb2⟩)
        go_roundw
        case rel => exact ⟨j + 1, by omega, by go_num, HE.out, blw_trans HWD.out hb2⟩
        case measure => simp [intOf]; omega
      · have HE : Hid (R = false) := by show R = false; rw [HR.out]; exact Pl.rall_false (k := j) (by omega) (HP.out.trans (decide_eq_false hz))
        go_wp2_with fail
        refine region_tail 10 (by kernel_rfl) (by kernel_rfl) ?_
        intro W hWd
        rw [← hWd] at hp HWD x0 x1 y0 y1
        simp only [List.take_succ_cons, List.take_zero, List.drop_succ_cons, List.drop_zero]
        have HWX : Hid (W = wr.drew) := hWd
        clear hWd
        have hj0 : (0 : Int) ≤ (j : Int) := by omega
        have hj1 : (j : Int) < (L.length : Int) := by omega
        have hj2 : (0 : Int) ≤ (j : Int) + 1 := by omega
        have hj3 : (j : Int) + 1 < (L.length : Int) := by omega
        have hjw : IntKind.i64.wrap (j : Int) = (j : Int) := wrapI _ (by omega) (by omega)
        have HX := uh (HXX.out W HWD.out (by rw [HWX.out]; exact Below.refl _ _))
        repeat still_step
        refine wpStill_nil ?_
        go_wp2_with (go_at_call 62; refine HX.out.mono ?_; rintro e w2 ⟨rfl, hb2⟩)
        go_ret
        exact ⟨Pl.ret_bool HE.out.symm, blw_trans HWD.out hb2⟩
    · have HE : Hid (R = true) := by
        show R = true
        rw [HR.out]
        have : j = L.length - 1 := by omega
        rw [this] at HQ; exact HQ.out
      go_wp2
      go_ret
      exact ⟨Pl.ret_bool HE.out.symm, hW⟩

def ascBl  (L : List Pl.Bl) : Bool := (List.range (L.length - 1)).all fun i => decide (cmpBl (L.getD i Pl.blNo) (L.getD (i + 1) Pl.blNo) < 0)
set_option maxRecDepth 8000 in
set_option maxHeartbeats 8000000 in
theorem ascBlI  (L : List Pl.Bl) (v : Value) (w : World) (h : Raw w shBls [blsD L] [v]) :
    Calls Try.prog 40 #[v, .func (.func 22) #[] #[]] w fun e w' => e = .returned (.bool (ascBl L)) ∧ Below w.heap.size w w' := by
  have HH := uh h
  obtain ⟨a, c, ev⟩ := h.len0
  subst ev
  have hl : L.length ≤ maxLen := by
    rcases bls_open h with ⟨e, _⟩ | ⟨_, _, _, _, _, e, _⟩
    · omega
    · exact e
  unfold maxLen at hl
  obtain ⟨R, hR⟩ : ∃ R, R = ascBl L := ⟨_, rfl⟩
  have HR : Hid (R = ascBl L) := hR
  rw [← hR]
  clear h hR
  go_enter Try.func40, Try.ntmps40
  go_wp2
  go_loopw [5] (fun i wr => ∃ j : Nat, j ≤ L.length - 1 ∧ i = .int .i64 ((j + 1 : Nat) : Int) ∧ (List.range j).all (fun i => decide (cmpBl (L.getD i Pl.blNo) (L.getD (i + 1) Pl.blNo) < 0)) = true ∧ Below w.heap.size w wr) (fun i _ => L.length - (intOf i).toNat)
  case atStart => exact ⟨0, Nat.zero_le _, rfl, rfl, Below.refl _ _⟩
  case round =>
    obtain ⟨j, hj, rfl, hq, hW⟩ := hrel
    have HQ := uh hq
    clear hq
    by_cases hlt : j + 1 < L.length
    · obtain ⟨x, hx⟩ : ∃ x, x = L.getD j Pl.blNo := ⟨_, rfl⟩
      obtain ⟨y, hy⟩ : ∃ y, y = L.getD (j + 1) Pl.blNo := ⟨_, rfl⟩
      have HWD := uh hW.drew
      rcases bls_open (HH.out.later hW.drew) with ⟨e0, _⟩ | ⟨p, o, c', hv, hp, _, hopen⟩
      · omega
      injection hv with g1 _ g3
      subst g1; subst g3
      obtain ⟨ax, cx, hgx, hrx⟩ := hopen j (by omega)
      obtain ⟨ay, cy, hgy, hry⟩ := hopen (j + 1) hlt
      rw [← hx] at hgx hrx
      rw [← hy] at hgy hry
      have x0 : wr.drew.cell? ⟨p, o + j * 3, none⟩ = some (.string x.kind) := rA_get hgx 0 _ rfl
      have x1 : wr.drew.cell? ⟨p, o + j * 3 + 1, none⟩ = some (.string x.name) := rA_get hgx 1 _ rfl
      have x2 : wr.drew.cell? ⟨p, o + j * 3 + 2, none⟩ = some (.slice ax x.lines.length cx) := rA_get hgx 2 _ rfl
      have y0 : wr.drew.cell? ⟨p, o + (j + 1) * 3, none⟩ = some (.string y.kind) := rA_get hgy 0 _ rfl
      have y1 : wr.drew.cell? ⟨p, o + (j + 1) * 3 + 1, none⟩ = some (.string y.name) := rA_get hgy 1 _ rfl
      have y2 : wr.drew.cell? ⟨p, o + (j + 1) * 3 + 2, none⟩ = some (.slice ay y.lines.length cy) := rA_get hgy 2 _ rfl
      clear hW hopen hgx hgy
      obtain ⟨r, hr⟩ : ∃ r, r = cmpBl x y := ⟨_, rfl⟩
      have HXX : Hid (∀ W, Below w.heap.size w W → Calls Try.prog 22 #[.agg #[.string x.kind, .string x.name, .slice ax x.lines.length cx], .agg #[.string y.kind, .string y.name, .slice ay y.lines.length cy]] W fun e w' => e = .returned (.int .i64 r) ∧ Below W.heap.size W w') := fun W _ => by rw [hr]; exact cmpBlI _ _ _ _ _ _ W
      have HP : Hid ((fun i => decide (cmpBl (L.getD i Pl.blNo) (L.getD (i + 1) Pl.blNo) < 0)) j = decide (r < 0)) := by show decide _ = _; rw [hr, hx, hy]
      clear hr hx hy hrx hry
      by_cases hz : r < 0
      · have HE := uh (Pl.rall_step HQ.out (HP.out.trans (decide_eq_true hz)))
        go_wp2_with fail
        refine region_tail 10 (by kernel_rfl) (by kernel_rfl) ?_
        intro W hWd
        rw [← hWd] at hp HWD x0 x1 x2 y0 y1 y2
        simp only [List.take_succ_cons, List.take_zero, List.drop_succ_cons, List.drop_zero]
        clear hWd
        have hj0 : (0 : Int) ≤ (j : Int) := by omega
        have hj1 : (j : Int) < (L.length : Int) := by omega
        have hj2 : (0 : Int) ≤ (j : Int) + 1 := by omega
        have hj3 : (j : Int) + 1 < (L.length : Int) := by omega
        have hjw : IntKind.i64.wrap (j : Int) = (j : Int) := wrapI _ (by omega) (by omega)
        have HX := uh (HXX.out W HWD.out)
        repeat still_step
        refine wpStill_nil ?_
        go_wp2_with (go_at_call 22; refine HX.out.mono ?_; rintro e w2 ⟨rfl, hb2⟩)
        go_roundw
        case rel => exact ⟨j + 1, by omega, by go_num, HE.out, blw_trans HWD.out hb2⟩
        case measure => simp [intOf]; omega
      · have HE : Hid (R = false) := by show R = false; rw [HR.out]; exact Pl.rall_false (k := j) (by omega) (HP.out.trans (decide_eq_false hz))
        go_wp2_with fail
        refine region_tail 10 (by kernel_rfl) (by kernel_rfl) ?_
        intro W hWd
        rw [← hWd] at hp HWD x0 x1 x2 y0 y1 y2
        simp only [List.take_succ_cons, List.take_zero, List.drop_succ_cons, List.drop_zero]
        clear hWd
        have hj0 : (0 : Int) ≤ (j : Int) := by omega
        have hj1 : (j : Int) < (L.length : Int) := by omega
        have hj2 : (0 : Int) ≤ (j : Int) + 1 := by omega
        have hj3 : (j : Int) + 1 < (L.length : Int) := by omega
        have hjw : IntKind.i64.wrap (j : Int) = (j : Int) := wrapI _ (by omega) (by omega)
        have HX := uh (HXX.out W HWD.out)
        repeat still_step
        refine wpStill_nil ?_
        go_wp2_with (go_at_call 22; refine HX.out.mono ?_; rintro e w2 ⟨rfl, hb2⟩)
        go_ret
        exact ⟨Pl.ret_bool HE.out.symm, blw_trans HWD.out hb2⟩
    · have HE : Hid (R = true) := by
        show R = true
        rw [HR.out]
        have : j = L.length - 1 := by omega
        rw [this] at HQ; exact HQ.out
      go_wp2
      go_ret
      exact ⟨Pl.ret_bool HE.out.symm, hW⟩

end Go.Proofs.Ytikacjpbnoihjaa
