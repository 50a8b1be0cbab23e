/-
  Walks: objects: sizes, copies, equality, marks.
-/
import Derived.Test.YtfdahoekjpobaaaGreatWalkAD
import Derived.Test.YtfdahoekjpobaaaGreatWalkAB
namespace Go.Proofs.YtfdahoekjpobaaaGreat
open Go.RowKit Go.Deep

theorem sc_size' (w : World) (a : Addr) (v : Value) : (w.setCell a v).heap.size = w.heap.size := by simp [World.setCell]

theorem one_cells (ss : List ByteArray) : ∀ u ∈ ss.map Value.string, u.oneCell' = true := by
  intro u hu; simp at hu; obtain ⟨s, _, rfl⟩ := hu; rfl

theorem owns_empty (W : World) (base : Nat) (h : base ≤ W.heap.size) : (W.alloc (.cells #[] 9)).ownsRow base 9 1 (.slice (some ⟨W.heap.size, 0, none⟩) 0 0) 0 [] :=
  ⟨rfl, Or.inr ⟨W.heap.size, 0, #[], rfl, h, by show (W.heap.push _)[W.heap.size]? = _; simp, Nat.le_refl _, by unfold maxLen; omega, rfl, rfl⟩⟩

theorem OwnBlk.laterB {w w' : World} {B b : Nat} {t : TypeId} {m : Nat} (h : OwnBlk w b t m) (hb : Below B w w') (hlt : b < B) : OwnBlk w' b t m := by
  obtain ⟨cs, h1, h2⟩ := h
  exact ⟨cs, by rw [hb.block b hlt]; exact h1, h2⟩

set_option maxHeartbeats 2000000 in
theorem l2Copy (o : Ob) (b1 : Option Addr) (c1 : Nat) (b2 : Option Addr) (c2 : Nat) (w : World) (h : ObG w b1 c1 b2 c2 o) :
    Calls Tryz.prog 23 #[.agg #[.string o.kind, .string o.name, .string o.team, .slice b1 o.values.length c1, .bool o.ending, .slice b2 o.holds.length c2, .int .i64 o.version]] w fun e w' => (∃ a1 n1 d1 a2 n2 d2 mid, e = .returned (.agg #[.string o.kind, .string o.name, .string o.team, .slice a1 n1 d1, .bool o.ending, .slice a2 n2 d2, .int .i64 o.version]) ∧ CT w' w.heap.size mid (.slice a1 n1 d1) o.values ∧ CT w' mid w'.heap.size (.slice a2 n2 d2) o.holds ∧ w.heap.size ≤ mid ∧ mid ≤ w'.heap.size) ∧ Below w.heap.size w w' := by
  have HA : Hid (ObG w b1 c1 b2 c2 o) := h
  have hl1 := h.len1
  have hl2 := h.len2
  clear h
  have hO0 : OwnBlk ((w.alloc (.cells #[.string o.kind, .string o.name, .string o.team, .slice b1 o.values.length c1, .bool o.ending, .slice b2 o.holds.length c2, .int .i64 o.version] 30)).alloc (.cells #[.string ⟨#[]⟩, .string ⟨#[]⟩, .string ⟨#[]⟩, .slice none 0 0, .bool false, .slice none 0 0, .int .i64 0] 30)) w.heap.size 30 7 := (OwnBlk.alloc w _ 30 7 rfl).past _
  have hO1 : OwnBlk ((w.alloc (.cells #[.string o.kind, .string o.name, .string o.team, .slice b1 o.values.length c1, .bool o.ending, .slice b2 o.holds.length c2, .int .i64 o.version] 30)).alloc (.cells #[.string ⟨#[]⟩, .string ⟨#[]⟩, .string ⟨#[]⟩, .slice none 0 0, .bool false, .slice none 0 0, .int .i64 0] 30)) (w.heap.size + 1) 30 7 := by
    have := OwnBlk.alloc (w.alloc (.cells #[.string o.kind, .string o.name, .string o.team, .slice b1 o.values.length c1, .bool o.ending, .slice b2 o.holds.length c2, .int .i64 o.version] 30)) #[.string ⟨#[]⟩, .string ⟨#[]⟩, .string ⟨#[]⟩, .slice none 0 0, .bool false, .slice none 0 0, .int .i64 0] 30 7 rfl
    have e : (w.alloc (.cells #[.string o.kind, .string o.name, .string o.team, .slice b1 o.values.length c1, .bool o.ending, .slice b2 o.holds.length c2, .int .i64 o.version] 30)).heap.size = w.heap.size + 1 := by simp
    rw [e] at this
    exact this
  have HO : Hid (OwnBlk (((w.alloc (.cells #[.string o.kind, .string o.name, .string o.team, .slice b1 o.values.length c1, .bool o.ending, .slice b2 o.holds.length c2, .int .i64 o.version] 30)).alloc (.cells #[.string ⟨#[]⟩, .string ⟨#[]⟩, .string ⟨#[]⟩, .slice none 0 0, .bool false, .slice none 0 0, .int .i64 0] 30)).alloc (.cells #[] 9)) w.heap.size 30 7 ∧ OwnBlk (((w.alloc (.cells #[.string o.kind, .string o.name, .string o.team, .slice b1 o.values.length c1, .bool o.ending, .slice b2 o.holds.length c2, .int .i64 o.version] 30)).alloc (.cells #[.string ⟨#[]⟩, .string ⟨#[]⟩, .string ⟨#[]⟩, .slice none 0 0, .bool false, .slice none 0 0, .int .i64 0] 30)).alloc (.cells #[] 9)) (w.heap.size + 1) 30 7) := ⟨hO0.past _, hO1.past _⟩
  have HB0 : Hid (Below w.heap.size w (((w.alloc (.cells #[.string o.kind, .string o.name, .string o.team, .slice b1 o.values.length c1, .bool o.ending, .slice b2 o.holds.length c2, .int .i64 o.version] 30)).alloc (.cells #[.string ⟨#[]⟩, .string ⟨#[]⟩, .string ⟨#[]⟩, .slice none 0 0, .bool false, .slice none 0 0, .int .i64 0] 30)).alloc (.cells #[] 9))) := blw_alloc (blw_alloc (blw_alloc (Below.refl _ _) _) _) _
  clear hO0 hO1
  obtain ⟨i0, hi, hz0, hz1, hz2⟩ := info_parts Tryz.info9
  go_enter Tryz.func23, Tryz.ntmps23
  go_wp2_with (at_builtin; refine wpList_append_ownG _ rfl _ _ 24 rfl (w.heap.size + 2) 9 i0 (.string ByteArray.empty) 1 16 Tryz.underlying24 hi hz0 hz1 hz2 rfl (by decide) _ 0 [] rfl ?c0 b1 o.values.length c1 (o.values.map Value.string) rfl ?c1 ?c2 ?c3 ?c4 ?c5 ?c6 ?_)
  case c0 =>
    have := owns_empty ((w.alloc (.cells #[.string o.kind, .string o.name, .string o.team, .slice b1 o.values.length c1, .bool o.ending, .slice b2 o.holds.length c2, .int .i64 o.version] 30)).alloc (.cells #[.string ⟨#[]⟩, .string ⟨#[]⟩, .string ⟨#[]⟩, .slice none 0 0, .bool false, .slice none 0 0, .int .i64 0] 30)) (w.heap.size + 2) (by simp)
    have e : ((w.alloc (.cells #[.string o.kind, .string o.name, .string o.team, .slice b1 o.values.length c1, .bool o.ending, .slice b2 o.holds.length c2, .int .i64 o.version] 30)).alloc (.cells #[.string ⟨#[]⟩, .string ⟨#[]⟩, .string ⟨#[]⟩, .slice none 0 0, .bool false, .slice none 0 0, .int .i64 0] 30)).heap.size = w.heap.size + 1 + 1 := by simp
    rw [e] at this
    exact this
  case c1 => simp
  case c2 => exact (HA.out.later HB0.out).at1.src
  case c3 => exact one_cells _
  case c4 => unfold maxLen; omega
  case c5 => omega
  case c6 => simp
  intro v1 w1 hown hgrow _
  have hct1 : CT w1 (w.heap.size + 2) w1.heap.size v1 o.values := CT.of_owns (by simpa using hown)
  have hb1 : Below (w.heap.size + 2) (((w.alloc (.cells #[.string o.kind, .string o.name, .string o.team, .slice b1 o.values.length c1, .bool o.ending, .slice b2 o.holds.length c2, .int .i64 o.version] 30)).alloc (.cells #[.string ⟨#[]⟩, .string ⟨#[]⟩, .string ⟨#[]⟩, .slice none 0 0, .bool false, .slice none 0 0, .int .i64 0] 30)).alloc (.cells #[] 9)) w1 := Below.grown (Below.refl _ _) hgrow (by simp) (fun k e => by injection e with e; subst e; exact Nat.le_refl _)
  obtain ⟨a1, n1, d1, hv1⟩ : ∃ a n c, v1 = .slice a n c := by
    rcases hct1 with ⟨h, _⟩ | ⟨g, cap, h, _⟩
    · exact ⟨_, _, _, h⟩
    · exact ⟨_, _, _, h⟩
  rw [hv1] at hct1 ⊢
  have HB1 : Hid (Below w.heap.size w w1) := HB0.out.trans (hb1.mono (by omega))
  have HOa1 : Hid (OwnBlk w1 w.heap.size 30 7) := HO.out.1.laterB hb1 (by omega)
  have HOb1 : Hid (OwnBlk w1 (w.heap.size + 1) 30 7) := HO.out.2.laterB hb1 (by omega)
  have HC1 : Hid (CT w1 (w.heap.size + 2) w1.heap.size (.slice a1 n1 d1) o.values) := hct1
  have k1 : ∀ q, w1.cell? ⟨w.heap.size, q, none⟩ = ((w.alloc (.cells #[.string o.kind, .string o.name, .string o.team, .slice b1 o.values.length c1, .bool o.ending, .slice b2 o.holds.length c2, .int .i64 o.version] 30)).alloc (.cells #[.string ⟨#[]⟩, .string ⟨#[]⟩, .string ⟨#[]⟩, .slice none 0 0, .bool false, .slice none 0 0, .int .i64 0] 30)).cell? ⟨w.heap.size, q, none⟩ := fun q => (hb1.cell (p := ⟨w.heap.size, q, none⟩) (by show w.heap.size < w.heap.size + 2; omega)).trans (World.cell?_alloc_past _ _ _ (by simp; omega))
  have hz1' := HOa1.out.frozen
  have hs1 : w.heap.size + 2 < w1.heap.size := by have := hb1.size; simp at this; omega
  have hs1a : w.heap.size < w1.heap.size := by omega
  have hs1b : w.heap.size + 1 < w1.heap.size := by omega
  clear hct1 hb1 hown hgrow hv1
  have HB1' : Hid (Below w.heap.size w ((w1.setCell ⟨w.heap.size, 3, none⟩ (.slice a1 n1 d1)).alloc (.cells #[] 9))) := blw_alloc (HB1.out.setCell (p := ⟨w.heap.size, 3, none⟩) (Nat.le_refl _) _) _
  go_wp2_with (at_builtin; refine wpList_append_ownG _ rfl _ _ 24 rfl w1.heap.size 9 i0 (.string ByteArray.empty) 1 16 Tryz.underlying24 hi hz0 hz1 hz2 rfl (by decide) _ 0 [] rfl ?c0 b2 o.holds.length c2 (o.holds.map Value.string) rfl ?c1 ?c2 ?c3 ?c4 ?c5 ?c6 ?_)
  case c0 =>
    have := owns_empty (w1.setCell ⟨w.heap.size, 3, none⟩ (.slice a1 n1 d1)) w1.heap.size (by simp [World.setCell])
    have e : (w1.setCell ⟨w.heap.size, 3, none⟩ (.slice a1 n1 d1)).heap.size = w1.heap.size := sc_size' _ _ _
    rw [e] at this
    exact this
  case c1 => simp
  case c2 => exact (HA.out.later HB1'.out).at2.src
  case c3 => exact one_cells _
  case c4 => unfold maxLen; omega
  case c5 => omega
  case c6 => simp [World.setCell]
  intro v2 w2 hown hgrow _
  have hct2 : CT w2 w1.heap.size w2.heap.size v2 o.holds := CT.of_owns (by simpa using hown)
  have hb2 : Below w1.heap.size ((w1.setCell ⟨w.heap.size, 3, none⟩ (.slice a1 n1 d1)).alloc (.cells #[] 9)) w2 := Below.grown (Below.refl _ _) hgrow (by simp [World.setCell]) (fun k e => by injection e with e; subst e; exact Nat.le_refl _)
  obtain ⟨a2, n2, d2, hv2⟩ : ∃ a n c, v2 = .slice a n c := by
    rcases hct2 with ⟨h, _⟩ | ⟨g, cap, h, _⟩
    · exact ⟨_, _, _, h⟩
    · exact ⟨_, _, _, h⟩
  rw [hv2] at hct2 ⊢
  have HB2 : Hid (Below w.heap.size w w2) := HB1'.out.trans (hb2.mono (by omega))
  have HOa2 : Hid (OwnBlk w2 w.heap.size 30 7) := ((HOa1.out.setCell 3 _).past _).laterB hb2 hs1a
  have HOb2 : Hid (OwnBlk w2 (w.heap.size + 1) 30 7) := ((HOb1.out.sc_other (by omega) 3 _).past _).laterB hb2 hs1b
  have hsz2 : w1.heap.size ≤ w2.heap.size := by have := hb2.size; simp [World.setCell] at this; omega
  have HC2 : Hid (CT w2 (w.heap.size + 2) w1.heap.size (.slice a1 n1 d1) o.values ∧ CT w2 w1.heap.size w2.heap.size (.slice a2 n2 d2) o.holds ∧ w1.heap.size ≤ w2.heap.size) := by
    refine ⟨?_, hct2, hsz2⟩
    have h1 : CT ((w1.setCell ⟨w.heap.size, 3, none⟩ (.slice a1 n1 d1)).alloc (.cells #[] 9)) (w.heap.size + 2) w1.heap.size (.slice a1 n1 d1) o.values := (HC1.out.sc (Or.inl (by omega)) 3 _).later (blw_alloc (Below.refl _ _) _)
    rcases h1 with h | ⟨g, cap, e, g1, g2, g3, g4, g5⟩
    · exact Or.inl h
    · exact Or.inr ⟨g, cap, e, g1, g2, g3.laterB hb2 g2, g4, fun i hi => (hb2.cell (p := ⟨g, i, none⟩) g2).trans (g5 i hi)⟩
  have e0 : w2.cell? ⟨w.heap.size, 0, none⟩ = some (.string o.kind) := ((hb2.cell (p := ⟨w.heap.size, 0, none⟩) hs1a).trans ((World.cell?_alloc_past (w := (w1.setCell ⟨w.heap.size, 3, none⟩ (.slice a1 n1 d1))) _ w.heap.size 0 (by rw [sc_size']; omega)).trans (sc_ne _ _ _ _ _ _ (Or.inr (by omega))))).trans ((k1 0).trans (by simp))
  have e1 : w2.cell? ⟨w.heap.size, 1, none⟩ = some (.string o.name) := ((hb2.cell (p := ⟨w.heap.size, 1, none⟩) hs1a).trans ((World.cell?_alloc_past (w := (w1.setCell ⟨w.heap.size, 3, none⟩ (.slice a1 n1 d1))) _ w.heap.size 1 (by rw [sc_size']; omega)).trans (sc_ne _ _ _ _ _ _ (Or.inr (by omega))))).trans ((k1 1).trans (by simp))
  have e2 : w2.cell? ⟨w.heap.size, 2, none⟩ = some (.string o.team) := ((hb2.cell (p := ⟨w.heap.size, 2, none⟩) hs1a).trans ((World.cell?_alloc_past (w := (w1.setCell ⟨w.heap.size, 3, none⟩ (.slice a1 n1 d1))) _ w.heap.size 2 (by rw [sc_size']; omega)).trans (sc_ne _ _ _ _ _ _ (Or.inr (by omega))))).trans ((k1 2).trans (by simp))
  have e3 : w2.cell? ⟨w.heap.size, 3, none⟩ = some (.slice a1 n1 d1) := (hb2.cell (p := ⟨w.heap.size, 3, none⟩) hs1a).trans ((World.cell?_alloc_past (w := (w1.setCell ⟨w.heap.size, 3, none⟩ (.slice a1 n1 d1))) _ w.heap.size 3 (by rw [sc_size']; omega)).trans (sc_eq HOa1.out 3 (by omega) _))
  have e4 : w2.cell? ⟨w.heap.size, 4, none⟩ = some (.bool o.ending) := ((hb2.cell (p := ⟨w.heap.size, 4, none⟩) hs1a).trans ((World.cell?_alloc_past (w := (w1.setCell ⟨w.heap.size, 3, none⟩ (.slice a1 n1 d1))) _ w.heap.size 4 (by rw [sc_size']; omega)).trans (sc_ne _ _ _ _ _ _ (Or.inr (by omega))))).trans ((k1 4).trans (by simp))
  have e5 : w2.cell? ⟨w.heap.size, 5, none⟩ = some (.slice b2 o.holds.length c2) := ((hb2.cell (p := ⟨w.heap.size, 5, none⟩) hs1a).trans ((World.cell?_alloc_past (w := (w1.setCell ⟨w.heap.size, 3, none⟩ (.slice a1 n1 d1))) _ w.heap.size 5 (by rw [sc_size']; omega)).trans (sc_ne _ _ _ _ _ _ (Or.inr (by omega))))).trans ((k1 5).trans (by simp))
  have e6 : w2.cell? ⟨w.heap.size, 6, none⟩ = some (.int .i64 o.version) := ((hb2.cell (p := ⟨w.heap.size, 6, none⟩) hs1a).trans ((World.cell?_alloc_past (w := (w1.setCell ⟨w.heap.size, 3, none⟩ (.slice a1 n1 d1))) _ w.heap.size 6 (by rw [sc_size']; omega)).trans (sc_ne _ _ _ _ _ _ (Or.inr (by omega))))).trans ((k1 6).trans (by simp))
  have hz2a := HOa2.out.frozen
  have hz2b := HOb2.out.frozen
  obtain ⟨y0, hy0⟩ := HOb2.out.cell 0 (by omega)
  obtain ⟨y1, hy1⟩ := HOb2.out.cell 1 (by omega)
  obtain ⟨y2, hy2⟩ := HOb2.out.cell 2 (by omega)
  obtain ⟨y3, hy3⟩ := HOb2.out.cell 3 (by omega)
  obtain ⟨y4, hy4⟩ := HOb2.out.cell 4 (by omega)
  obtain ⟨y5, hy5⟩ := HOb2.out.cell 5 (by omega)
  obtain ⟨y6, hy6⟩ := HOb2.out.cell 6 (by omega)
  clear hct2 hb2 k1 hz1' hown hgrow hv2
  go_wp2
  have HP : Hid (OwnBlk (w2.setCell ⟨w.heap.size, 5, none⟩ (.slice a2 n2 d2)) (w.heap.size + 1) 30 7) := HOb2.out.sc_other (by omega) 5 _
  have r : ∀ j, j < 7 → ((((((((w2.setCell ⟨w.heap.size, 5, none⟩ (.slice a2 n2 d2)).setCell ⟨w.heap.size + 1, 0, none⟩ (.string o.kind)).setCell ⟨w.heap.size + 1, 1, none⟩ (.string o.name)).setCell ⟨w.heap.size + 1, 2, none⟩ (.string o.team)).setCell ⟨w.heap.size + 1, 3, none⟩ (.slice a1 n1 d1)).setCell ⟨w.heap.size + 1, 4, none⟩ (.bool o.ending)).setCell ⟨w.heap.size + 1, 5, none⟩ (.slice a2 n2 d2)).setCell ⟨w.heap.size + 1, 6, none⟩ (.int .i64 o.version)).cell? ⟨w.heap.size + 1, 0 + (0 + j), none⟩ = ([.string o.kind, .string o.name, .string o.team, .slice a1 n1 d1, .bool o.ending, .slice a2 n2 d2, .int .i64 o.version] : List Value)[j]? := fun j hj => puts_at 0 [.string o.kind, .string o.name, .string o.team, .slice a1 n1 d1, .bool o.ending, .slice a2 n2 d2, .int .i64 o.version] (w2.setCell ⟨w.heap.size, 5, none⟩ (.slice a2 n2 d2)) 0 HP.out (by simp) j (by simpa using hj)
  have r0 : ((((((((w2.setCell ⟨w.heap.size, 5, none⟩ (.slice a2 n2 d2)).setCell ⟨w.heap.size + 1, 0, none⟩ (.string o.kind)).setCell ⟨w.heap.size + 1, 1, none⟩ (.string o.name)).setCell ⟨w.heap.size + 1, 2, none⟩ (.string o.team)).setCell ⟨w.heap.size + 1, 3, none⟩ (.slice a1 n1 d1)).setCell ⟨w.heap.size + 1, 4, none⟩ (.bool o.ending)).setCell ⟨w.heap.size + 1, 5, none⟩ (.slice a2 n2 d2)).setCell ⟨w.heap.size + 1, 6, none⟩ (.int .i64 o.version)).cell? ⟨w.heap.size + 1, 0, none⟩ = some (.string o.kind) := r 0 (by omega)
  have r1 : ((((((((w2.setCell ⟨w.heap.size, 5, none⟩ (.slice a2 n2 d2)).setCell ⟨w.heap.size + 1, 0, none⟩ (.string o.kind)).setCell ⟨w.heap.size + 1, 1, none⟩ (.string o.name)).setCell ⟨w.heap.size + 1, 2, none⟩ (.string o.team)).setCell ⟨w.heap.size + 1, 3, none⟩ (.slice a1 n1 d1)).setCell ⟨w.heap.size + 1, 4, none⟩ (.bool o.ending)).setCell ⟨w.heap.size + 1, 5, none⟩ (.slice a2 n2 d2)).setCell ⟨w.heap.size + 1, 6, none⟩ (.int .i64 o.version)).cell? ⟨w.heap.size + 1, 1, none⟩ = some (.string o.name) := r 1 (by omega)
  have r2 : ((((((((w2.setCell ⟨w.heap.size, 5, none⟩ (.slice a2 n2 d2)).setCell ⟨w.heap.size + 1, 0, none⟩ (.string o.kind)).setCell ⟨w.heap.size + 1, 1, none⟩ (.string o.name)).setCell ⟨w.heap.size + 1, 2, none⟩ (.string o.team)).setCell ⟨w.heap.size + 1, 3, none⟩ (.slice a1 n1 d1)).setCell ⟨w.heap.size + 1, 4, none⟩ (.bool o.ending)).setCell ⟨w.heap.size + 1, 5, none⟩ (.slice a2 n2 d2)).setCell ⟨w.heap.size + 1, 6, none⟩ (.int .i64 o.version)).cell? ⟨w.heap.size + 1, 2, none⟩ = some (.string o.team) := r 2 (by omega)
  have r3 : ((((((((w2.setCell ⟨w.heap.size, 5, none⟩ (.slice a2 n2 d2)).setCell ⟨w.heap.size + 1, 0, none⟩ (.string o.kind)).setCell ⟨w.heap.size + 1, 1, none⟩ (.string o.name)).setCell ⟨w.heap.size + 1, 2, none⟩ (.string o.team)).setCell ⟨w.heap.size + 1, 3, none⟩ (.slice a1 n1 d1)).setCell ⟨w.heap.size + 1, 4, none⟩ (.bool o.ending)).setCell ⟨w.heap.size + 1, 5, none⟩ (.slice a2 n2 d2)).setCell ⟨w.heap.size + 1, 6, none⟩ (.int .i64 o.version)).cell? ⟨w.heap.size + 1, 3, none⟩ = some (.slice a1 n1 d1) := r 3 (by omega)
  have r4 : ((((((((w2.setCell ⟨w.heap.size, 5, none⟩ (.slice a2 n2 d2)).setCell ⟨w.heap.size + 1, 0, none⟩ (.string o.kind)).setCell ⟨w.heap.size + 1, 1, none⟩ (.string o.name)).setCell ⟨w.heap.size + 1, 2, none⟩ (.string o.team)).setCell ⟨w.heap.size + 1, 3, none⟩ (.slice a1 n1 d1)).setCell ⟨w.heap.size + 1, 4, none⟩ (.bool o.ending)).setCell ⟨w.heap.size + 1, 5, none⟩ (.slice a2 n2 d2)).setCell ⟨w.heap.size + 1, 6, none⟩ (.int .i64 o.version)).cell? ⟨w.heap.size + 1, 4, none⟩ = some (.bool o.ending) := r 4 (by omega)
  have r5 : ((((((((w2.setCell ⟨w.heap.size, 5, none⟩ (.slice a2 n2 d2)).setCell ⟨w.heap.size + 1, 0, none⟩ (.string o.kind)).setCell ⟨w.heap.size + 1, 1, none⟩ (.string o.name)).setCell ⟨w.heap.size + 1, 2, none⟩ (.string o.team)).setCell ⟨w.heap.size + 1, 3, none⟩ (.slice a1 n1 d1)).setCell ⟨w.heap.size + 1, 4, none⟩ (.bool o.ending)).setCell ⟨w.heap.size + 1, 5, none⟩ (.slice a2 n2 d2)).setCell ⟨w.heap.size + 1, 6, none⟩ (.int .i64 o.version)).cell? ⟨w.heap.size + 1, 5, none⟩ = some (.slice a2 n2 d2) := r 5 (by omega)
  have r6 : ((((((((w2.setCell ⟨w.heap.size, 5, none⟩ (.slice a2 n2 d2)).setCell ⟨w.heap.size + 1, 0, none⟩ (.string o.kind)).setCell ⟨w.heap.size + 1, 1, none⟩ (.string o.name)).setCell ⟨w.heap.size + 1, 2, none⟩ (.string o.team)).setCell ⟨w.heap.size + 1, 3, none⟩ (.slice a1 n1 d1)).setCell ⟨w.heap.size + 1, 4, none⟩ (.bool o.ending)).setCell ⟨w.heap.size + 1, 5, none⟩ (.slice a2 n2 d2)).setCell ⟨w.heap.size + 1, 6, none⟩ (.int .i64 o.version)).cell? ⟨w.heap.size + 1, 6, none⟩ = some (.int .i64 o.version) := r 6 (by omega)
  have hct : ∀ {lo hi : Nat} {v : Value} {ss : List ByteArray}, CT w2 lo hi v ss → w.heap.size + 1 < lo → CT ((((((((w2.setCell ⟨w.heap.size, 5, none⟩ (.slice a2 n2 d2)).setCell ⟨w.heap.size + 1, 0, none⟩ (.string o.kind)).setCell ⟨w.heap.size + 1, 1, none⟩ (.string o.name)).setCell ⟨w.heap.size + 1, 2, none⟩ (.string o.team)).setCell ⟨w.heap.size + 1, 3, none⟩ (.slice a1 n1 d1)).setCell ⟨w.heap.size + 1, 4, none⟩ (.bool o.ending)).setCell ⟨w.heap.size + 1, 5, none⟩ (.slice a2 n2 d2)).setCell ⟨w.heap.size + 1, 6, none⟩ (.int .i64 o.version)) lo hi v ss := fun h hlo => (((((((h.sc (Or.inl (by omega)) _ _).sc (Or.inl hlo) _ _).sc (Or.inl hlo) _ _).sc (Or.inl hlo) _ _).sc (Or.inl hlo) _ _).sc (Or.inl hlo) _ _).sc (Or.inl hlo) _ _).sc (Or.inl hlo) _ _
  have hsz : ((((((((w2.setCell ⟨w.heap.size, 5, none⟩ (.slice a2 n2 d2)).setCell ⟨w.heap.size + 1, 0, none⟩ (.string o.kind)).setCell ⟨w.heap.size + 1, 1, none⟩ (.string o.name)).setCell ⟨w.heap.size + 1, 2, none⟩ (.string o.team)).setCell ⟨w.heap.size + 1, 3, none⟩ (.slice a1 n1 d1)).setCell ⟨w.heap.size + 1, 4, none⟩ (.bool o.ending)).setCell ⟨w.heap.size + 1, 5, none⟩ (.slice a2 n2 d2)).setCell ⟨w.heap.size + 1, 6, none⟩ (.int .i64 o.version)).heap.size = w2.heap.size := by simp [World.setCell]
  refine bodyPost_ret (v := .agg #[.string o.kind, .string o.name, .string o.team, .slice a1 n1 d1, .bool o.ending, .slice a2 n2 d2, .int .i64 o.version]) (by simp only [results, Tryz.results23]; simp [go_sem, r0, r1, r2, r3, r4, r5, r6]) rfl ⟨⟨_, _, _, _, _, _, w1.heap.size, rfl, (hct HC2.out.1 (by omega)).mono (by omega) (Nat.le_refl _), ?_, by omega, ?_⟩, ?_⟩
  · rw [hsz]; exact hct HC2.out.2.1 (by omega)
  · rw [hsz]; exact HC2.out.2.2
  · exact puts_below (a := w) 0 (B := w.heap.size + 1) (by omega) [.string o.kind, .string o.name, .string o.team, .slice a1 n1 d1, .bool o.ending, .slice a2 n2 d2, .int .i64 o.version] (w2.setCell ⟨w.heap.size, 5, none⟩ (.slice a2 n2 d2)) 0 (HB2.out.setCell (p := ⟨w.heap.size, 5, none⟩) (Nat.le_refl _) _)

end Go.Proofs.YtfdahoekjpobaaaGreat

namespace Go.Proofs.YtfdahoekjpobaaaGreat
open Go.RowKit Go.Deep

theorem OwnBlk.alloc_at (W : World) (cs : Array Value) (t : TypeId) (m n : Nat) (h : cs.size = m) (hn : n = W.heap.size) : OwnBlk (W.alloc (.cells cs t)) n t m := by
  subst hn; exact OwnBlk.alloc W cs t m h

def Ob.sized (o : Ob) : Prop := o.kind.size ≤ maxLen ∧ o.name.size ≤ maxLen ∧ o.team.size ≤ maxLen

set_option maxHeartbeats 1000000 in
theorem szObj (o : Ob) (v1 v2 : Value) (left : Int) (w : World) (h0 : 0 ≤ left) (h1 : left ≤ 1048576) (t1 : Texts w v1 o.values) (t2 : Texts w v2 o.holds) (hs : o.sized) :
    Calls Tryz.prog 6 #[.agg #[.string o.kind, .string o.name, .string o.team, v1, .bool o.ending, v2, .int .i64 o.version], .int .i64 left] w fun e w' => (∃ r : Int, e = .returned (.int .i64 r) ∧ szP (o.values.length ≤ 1048576 ∧ o.holds.length ≤ 1048576) left r) ∧ Below w.heap.size w w' := by
  obtain ⟨s1, s2, s3⟩ := hs
  unfold maxLen at s1 s2 s3
  have HT : Hid (∀ o', Texts (w.alloc o') v1 o.values ∧ Texts (w.alloc o') v2 o.holds) := fun o' => ⟨t1.later (blw_alloc (Below.refl _ _) o'), t2.later (blw_alloc (Below.refl _ _) o')⟩
  clear t1 t2
  by_cases c1 : left < (o.kind.size : Int)
  · go_enter Tryz.func6, Tryz.ntmps6
    go_wp2
    go_ret
    exact ⟨⟨_, rfl, by unfold szP; exact ⟨by omega, by omega, by omega⟩⟩, blw_alloc (Below.refl _ _) _⟩
  by_cases c2 : left - o.kind.size < (o.name.size : Int)
  · go_enter Tryz.func6, Tryz.ntmps6
    go_wp2
    go_ret
    exact ⟨⟨_, rfl, by unfold szP; exact ⟨by omega, by omega, by omega⟩⟩, blw_alloc (Below.refl _ _) _⟩
  by_cases c3 : left - o.kind.size - o.name.size < (o.team.size : Int)
  · go_enter Tryz.func6, Tryz.ntmps6
    go_wp2
    go_ret
    exact ⟨⟨_, rfl, by unfold szP; exact ⟨by omega, by omega, by omega⟩⟩, blw_alloc (Below.refl _ _) _⟩
  go_enter Tryz.func6, Tryz.ntmps6
  go_wp2_with fail
  refine (szTexts_any v1 o.values _ _ (by omega) (by omega) (HT.out _).1).mono ?_
  rintro e w1 ⟨⟨r, rfl, hr⟩, rfl⟩
  have q1 : -1 ≤ r := hr.1
  have q2 : r ≤ left - o.kind.size - o.name.size - o.team.size := hr.2.1
  have HR : Hid (0 ≤ r → (o.values.length : Int) ≤ 1048576) := fun h => by have := hr.2.2 h; omega
  clear hr
  by_cases c4 : r < 0
  · go_wp2
    go_ret
    exact ⟨⟨_, rfl, by unfold szP; exact ⟨by omega, by omega, by omega⟩⟩, blw_alloc (Below.refl _ _) _⟩
  go_wp2_with fail
  refine (szTexts_any v2 o.holds _ _ (by omega) (by omega) (HT.out _).2).mono ?_
  rintro e w2 ⟨⟨r2, rfl, hr2⟩, rfl⟩
  have q3 : -1 ≤ r2 := hr2.1
  have q4 : r2 ≤ r := hr2.2.1
  have HR2 : Hid (0 ≤ r2 → (o.holds.length : Int) ≤ 1048576) := fun h => by have := hr2.2.2 h; omega
  clear hr2
  by_cases c5 : r2 < 0
  all_goals
    go_wp2
    go_ret
    refine ⟨⟨_, rfl, ?_⟩, blw_alloc (Below.refl _ _) _⟩
    unfold szP
    exact ⟨by omega, by omega, fun h => ⟨by have := HR.out (by omega); omega, by have := HR2.out (by omega); omega⟩⟩

set_option maxHeartbeats 2000000 in
theorem toObj (o : Ob) (v1 v2 : Value) (w : World) (hl1 : o.values.length ≤ 1048576) (hl2 : o.holds.length ≤ 1048576) (t1 : Texts w v1 o.values) (t2 : Texts w v2 o.holds) :
    Calls Tryz.prog 10 #[.agg #[.string o.kind, .string o.name, .string o.team, v1, .bool o.ending, v2, .int .i64 o.version]] w fun e w' => (∃ b1 b2, e = .returned (.agg #[.string o.kind, .string o.name, .string o.team, .slice (some ⟨b1, 0, none⟩) o.values.length o.values.length, .bool o.ending, .slice (some ⟨b2, 0, none⟩) o.holds.length o.holds.length, .int .i64 o.version]) ∧ ObArg w' b1 b2 o ∧ OwnBlk w' b1 9 o.values.length ∧ OwnBlk w' b2 9 o.holds.length ∧ w.heap.size ≤ b1 ∧ b1 < b2) ∧ Below w.heap.size w w' := by
  have HT : Hid (∀ W, Below w.heap.size w W → Texts W v1 o.values ∧ Texts W v2 o.holds) := fun W h => ⟨t1.later h, t2.later h⟩
  clear t1 t2
  go_enter Tryz.func10, Tryz.ntmps10
  go_wp2_with fail
  refine (toTexts_any v1 o.values _ hl1 (HT.out _ (by repeat (first | exact Below.refl _ _ | refine blw_alloc ?_ _))).1).mono ?_
  rintro e w1 ⟨cs1, rfl, rfl, hsz1, hcs1⟩
  have HC1 : Hid (cs1.size = o.values.length ∧ ∀ j, j < o.values.length → cs1[j]? = some (.string (o.values.getD j ByteArray.empty))) := ⟨hsz1, hcs1⟩
  clear hsz1 hcs1
  go_wp2_with fail
  refine (toTexts_any v2 o.holds _ hl2 (HT.out _ (by repeat (first | exact Below.refl _ _ | refine blw_alloc ?_ _))).2).mono ?_
  rintro e w2 ⟨cs2, rfl, rfl, hsz2, hcs2⟩
  have HC2 : Hid (cs2.size = o.holds.length ∧ ∀ j, j < o.holds.length → cs2[j]? = some (.string (o.holds.getD j ByteArray.empty))) := ⟨hsz2, hcs2⟩
  clear hsz2 hcs2 HT
  go_wp2
  refine bodyPost_ret (v := .agg #[.string o.kind, .string o.name, .string o.team, .slice (some ⟨w.heap.size + 1 + 1 + 1, 0, none⟩) o.values.length o.values.length, .bool o.ending, .slice (some ⟨w.heap.size + 1 + 1 + 1 + 1, 0, none⟩) o.holds.length o.holds.length, .int .i64 o.version]) (by simp [results, Tryz.results10, go_sem]) rfl ⟨⟨w.heap.size + 1 + 1 + 1, w.heap.size + 1 + 1 + 1 + 1, rfl, ⟨by simp, by simp, hl1, hl2, fun i hi => ?_, fun i hi => ?_⟩, ?_, ?_, by omega, by omega⟩, ?_⟩
  · rw [World.cell?_alloc_past _ _ _ (by simp), World.cell?_alloc_at cs1 9 _ _ (by simp)]
    exact HC1.out.2 i hi
  · rw [World.cell?_alloc_at cs2 9 _ _ (by simp)]
    exact HC2.out.2 i hi
  · exact (OwnBlk.alloc_at _ cs1 9 _ _ HC1.out.1 (by simp)).past _
  · exact OwnBlk.alloc_at _ cs2 9 _ _ HC2.out.1 (by simp)
  · repeat (first | exact Below.refl _ _ | refine blw_alloc ?_ _)

theorem CT.texts {w : World} {lo hi : Nat} {v : Value} {ss : List ByteArray} (h : CT w lo hi v ss) (hl : ss.length ≤ 1048576) (hs : ∀ i, i < ss.length → (ss.getD i ByteArray.empty).size ≤ maxLen) : Texts w v ss := by
  rcases h with ⟨rfl, rfl⟩ | ⟨g, cap, rfl, g1, g2, g3, g4, g5⟩
  · exact Or.inl ⟨_, _, rfl, rfl⟩
  · exact Or.inr ⟨g, 0, cap, rfl, g3.lt, hs, by unfold maxLen; omega, fun i hi => by rw [Nat.zero_add]; exact g5 i hi⟩

set_option maxHeartbeats 400000 in
theorem eqTexts_nil (a a' : Option Addr) (c c' : Nat) (w : World) :
    Calls Tryz.prog 31 #[.slice a 0 c, .slice a' 0 c'] w fun e w' => e = .returned (.bool true) ∧ w = w' := by
  go_enter Tryz.func31, Tryz.ntmps31
  go_wp2
  refine wp_loop_rounds 1 ?_
  rw [rounds_succ]
  go_wp2
  go_ret
  exact ⟨rfl, rfl⟩

theorem eqTexts_any (v v' : Value) (ss : List ByteArray) (w : World) (h : Texts w v ss) (h' : Texts w v' ss) :
    Calls Tryz.prog 31 #[v, v'] w fun e w' => e = .returned (.bool true) ∧ Below w.heap.size w w' := by
  have nil : ∀ {u : Value}, Texts w u [] → ∃ a c, u = .slice a 0 c := by
    intro u hu
    rcases hu with ⟨a, c, rfl, _⟩ | ⟨b, off, cap, rfl, _⟩
    · exact ⟨a, c, rfl⟩
    · exact ⟨_, _, rfl⟩
  by_cases h0 : ss = []
  · subst h0
    obtain ⟨a, c, rfl⟩ := nil h
    obtain ⟨a', c', rfl⟩ := nil h'
    refine (eqTexts_nil a a' c c' w).mono ?_
    rintro e w' ⟨rfl, rfl⟩
    exact ⟨rfl, Below.refl _ _⟩
  · rcases h with ⟨_, _, _, e⟩ | ⟨b, off, cap, rfl, _, _, h3, h4⟩
    · exact absurd e h0
    rcases h' with ⟨_, _, _, e⟩ | ⟨b', off', cap', rfl, _, _, _, h4'⟩
    · exact absurd e h0
    exact eqTexts_row b off cap b' off' cap' ss w h3 h4 h4'

set_option maxHeartbeats 2000000 in
theorem eqObj (o : Ob) (v1 v2 u1 u2 : Value) (w : World) (t1 : Texts w v1 o.values) (t2 : Texts w v2 o.holds) (r1 : Texts w u1 o.values) (r2 : Texts w u2 o.holds) :
    Calls Tryz.prog 12 #[.agg #[.string o.kind, .string o.name, .string o.team, v1, .bool o.ending, v2, .int .i64 o.version], .agg #[.string o.kind, .string o.name, .string o.team, u1, .bool o.ending, u2, .int .i64 o.version]] w fun e w' => e = .returned (.bool true) ∧ Below w.heap.size w w' := by
  have HT : Hid (∀ W, Below w.heap.size w W → (Texts W v1 o.values ∧ Texts W u1 o.values) ∧ Texts W v2 o.holds ∧ Texts W u2 o.holds) := fun W h => ⟨⟨t1.later h, r1.later h⟩, t2.later h, r2.later h⟩
  clear t1 t2 r1 r2
  have HB : Hid (Below w.heap.size w ((w.alloc (.cells #[.string o.kind, .string o.name, .string o.team, v1, .bool o.ending, v2, .int .i64 o.version] 30)).alloc (.cells #[.string o.kind, .string o.name, .string o.team, u1, .bool o.ending, u2, .int .i64 o.version] 30))) := blw_alloc (blw_alloc (Below.refl _ _) _) _
  go_enter Tryz.func12, Tryz.ntmps12
  go_wp2_with fail
  refine (eqTexts_any v1 u1 o.values _ (HT.out _ HB.out).1.1 (HT.out _ HB.out).1.2).mono ?_
  rintro e w1 ⟨rfl, hb1⟩
  have HB1 : Hid (Below w.heap.size w w1) := blw_trans HB.out hb1
  have k1 : ∀ q, w1.cell? ⟨w.heap.size, q, none⟩ = ((w.alloc (.cells #[.string o.kind, .string o.name, .string o.team, v1, .bool o.ending, v2, .int .i64 o.version] 30)).alloc (.cells #[.string o.kind, .string o.name, .string o.team, u1, .bool o.ending, u2, .int .i64 o.version] 30)).cell? ⟨w.heap.size, q, none⟩ := fun q => hb1.cell (p := ⟨w.heap.size, q, none⟩) (by simp; omega)
  have k1' : ∀ q, w1.cell? ⟨w.heap.size + 1, q, none⟩ = ((w.alloc (.cells #[.string o.kind, .string o.name, .string o.team, v1, .bool o.ending, v2, .int .i64 o.version] 30)).alloc (.cells #[.string o.kind, .string o.name, .string o.team, u1, .bool o.ending, u2, .int .i64 o.version] 30)).cell? ⟨w.heap.size + 1, q, none⟩ := fun q => hb1.cell (p := ⟨w.heap.size + 1, q, none⟩) (by simp)
  have z1 : w.heap.size + 1 < w1.heap.size := by have := hb1.size; simp at this; omega
  clear hb1
  go_wp2_with fail
  refine (eqTexts_any v2 u2 o.holds _ (HT.out _ HB1.out).2.1 (HT.out _ HB1.out).2.2).mono ?_
  rintro e w2 ⟨rfl, hb2⟩
  have HB2 : Hid (Below w.heap.size w w2) := blw_trans HB1.out hb2
  have k2 : ∀ q, w2.cell? ⟨w.heap.size, q, none⟩ = ((w.alloc (.cells #[.string o.kind, .string o.name, .string o.team, v1, .bool o.ending, v2, .int .i64 o.version] 30)).alloc (.cells #[.string o.kind, .string o.name, .string o.team, u1, .bool o.ending, u2, .int .i64 o.version] 30)).cell? ⟨w.heap.size, q, none⟩ := fun q => (hb2.cell (p := ⟨w.heap.size, q, none⟩) (by show w.heap.size < w1.heap.size; omega)).trans (k1 q)
  have k2' : ∀ q, w2.cell? ⟨w.heap.size + 1, q, none⟩ = ((w.alloc (.cells #[.string o.kind, .string o.name, .string o.team, v1, .bool o.ending, v2, .int .i64 o.version] 30)).alloc (.cells #[.string o.kind, .string o.name, .string o.team, u1, .bool o.ending, u2, .int .i64 o.version] 30)).cell? ⟨w.heap.size + 1, q, none⟩ := fun q => (hb2.cell (p := ⟨w.heap.size + 1, q, none⟩) z1).trans (k1' q)
  clear hb2 k1 k1'
  go_wp2
  go_ret
  exact ⟨rfl, HB2.out⟩

end Go.Proofs.YtfdahoekjpobaaaGreat
