/-
  Walks: copies of objects: the specification.
-/
import Derived.Test.YtbannihkgglpaaaGreatMarks
import Derived.Test.YtbannihkgglpaaaGreatWalkK
import Derived.Test.YtbannihkgglpaaaGreatPuts
/-
  Walks: copies of lists of texts.
-/
namespace Go.Proofs.YtbannihkgglpaaaGreat
open Go.RowKit Go.Deep

/-- A list of texts in a block of the call's own from lo on, below hi, or nil. -/
def CT (w : World) (lo hi : Nat) (v : Value) (ss : List ByteArray) : Prop :=
  (v = .slice none 0 0 ∧ ss = []) ∨ ∃ g cap, v = .slice (some ⟨g, 0, none⟩) ss.length cap ∧ lo ≤ g ∧ g < hi ∧ OwnBlk w g 9 cap ∧ ss.length ≤ cap ∧ ∀ i, i < ss.length → w.cell? ⟨g, i, none⟩ = some (.string (ss.getD i ByteArray.empty))

theorem CT.of_owns {w : World} {lo : Nat} {v : Value} {ss : List ByteArray} (h : w.ownsRow lo 9 1 v ss.length (ss.map Value.string)) : CT w lo w.heap.size v ss := by
  rcases h with ⟨_, ⟨rfl, hn⟩ | ⟨g, cap, cur, rfl, hg, hb, hn, _, hcs, ht⟩⟩
  · exact Or.inl ⟨rfl, List.length_eq_zero_iff.1 hn⟩
  · have hO : OwnBlk w g 9 cap := ⟨cur, hb, by omega⟩
    refine Or.inr ⟨g, cap, rfl, hg, hO.lt, hO, hn, fun i hi => ?_⟩
    have hc : w.cell? ⟨g, i, none⟩ = cur[i]? := by simp [World.cell?, hb]
    rw [hc]
    have e : (cur.toList.take (ss.length * 1))[i]? = (ss.map Value.string)[i]? := by rw [ht]
    rw [List.getElem?_take, if_pos (by omega)] at e
    rw [← Array.getElem?_toList, e]
    simp [hi]

theorem CT.later {w w' : World} {lo hi : Nat} {v : Value} {ss : List ByteArray} (h : CT w lo hi v ss) (hb : Below w.heap.size w w') : CT w' lo hi v ss := by
  rcases h with h | ⟨g, cap, rfl, h1, h1', h2, h3, h4⟩
  · exact Or.inl h
  · exact Or.inr ⟨g, cap, rfl, h1, h1', h2.later hb, h3, fun i hi => (hb.cell (p := ⟨g, i, none⟩) h2.lt).trans (h4 i hi)⟩

theorem CT.sc {w : World} {lo hi : Nat} {v : Value} {ss : List ByteArray} (h : CT w lo hi v ss) {B : Nat} (hB : B < lo ∨ hi ≤ B) (o : Nat) (x : Value) : CT (w.setCell ⟨B, o, none⟩ x) lo hi v ss := by
  rcases h with h | ⟨g, cap, rfl, h1, h1', h2, h3, h4⟩
  · exact Or.inl h
  · exact Or.inr ⟨g, cap, rfl, h1, h1', h2.sc_other (by omega) o x, h3, fun i hi => (sc_ne w B o x g i (Or.inl (by omega))).trans (h4 i hi)⟩

theorem CT.mono {w : World} {lo hi lo' hi' : Nat} {v : Value} {ss : List ByteArray} (h : CT w lo hi v ss) (h1 : lo' ≤ lo) (h2 : hi ≤ hi') : CT w lo' hi' v ss := by
  rcases h with h | ⟨g, cap, rfl, g1, g2, g3, g4, g5⟩
  · exact Or.inl h
  · exact Or.inr ⟨g, cap, rfl, by omega, by omega, g3, g4, g5⟩

theorem below_of_grown {w w' : World} (hg : w.grownBy w' none) : Below w.heap.size w w' := Below.grown (Below.refl _ _) hg (Nat.le_refl _) (fun k e => by cases e)

set_option maxRecDepth 8000 in
set_option maxHeartbeats 1000000 in
theorem copyTexts (b c : Nat) (ss : List ByteArray) (w : World) (hl : ss.length ≤ 1048576) (hc : ∀ i, i < ss.length → w.cell? ⟨b, i, none⟩ = some (.string (ss.getD i ByteArray.empty))) :
    Calls Tryz.prog 57 #[.slice (some ⟨b, 0, none⟩) ss.length c] w fun e w' => (∃ a n c, e = .returned (.slice a n c) ∧ CT w' w.heap.size w'.heap.size (.slice a n c) ss) ∧ Below w.heap.size w w' := by
  obtain ⟨i0, hi, hz0, hz1, hz2⟩ := info_parts Tryz.info9
  go_enter Tryz.func57, Tryz.ntmps57
  go_wp2_with (at_builtin; refine wpList_append_own _ rfl _ _ 24 rfl w.heap.size 9 i0 (.string ByteArray.empty) 1 16 Tryz.underlying24 hi hz0 hz1 hz2 rfl (by decide) _ 0 [] rfl (World.ownsRow_nil _ _ _ _) ⟨b, 0, none⟩ ss.length c (ss.map Value.string) rfl ?c1 ?c2 ?c3 ?c4 ?c5 ?c6 ?_)
  case c1 => simp
  case c2 =>
    intro j u hj
    rw [List.getElem?_map] at hj
    cases hq : ss[j]? with
    | none => rw [hq] at hj; cases hj
    | some s =>
      rw [hq] at hj
      have hjl : j < ss.length := by
        by_cases hjl : j < ss.length
        · exact hjl
        · rw [List.getElem?_eq_none (by omega)] at hq; cases hq
      have := hc j hjl
      have e : ss.getD j ByteArray.empty = s := by simp [hq]
      rw [e] at this
      injection hj with hj
      rw [← hj]
      by_cases h0 : j = 0
      · subst h0; simpa [Addr.add] using this
      · simpa [Addr.add, h0] using this
  case c3 => intro u hu; simp at hu; obtain ⟨s, _, rfl⟩ := hu; rfl
  case c4 => unfold maxLen; omega
  case c5 => omega
  case c6 => exact Nat.le_refl _
  intro v' w1 hown hgrow hnil
  have hct : CT w1 w.heap.size w1.heap.size v' ss := CT.of_owns (by simpa using hown)
  have hB : Below w.heap.size w w1 := below_of_grown hgrow
  obtain ⟨a1, n1, c1, hv1⟩ : ∃ a n c, v' = .slice a n c := by
    rcases hct with ⟨h, _⟩ | ⟨g, cap, h, _⟩
    · exact ⟨_, _, _, h⟩
    · exact ⟨_, _, _, h⟩
  rw [hv1] at hct ⊢
  have HC : Hid (CT w1 w.heap.size w1.heap.size (.slice a1 n1 c1) ss) := hct
  clear hct hown hgrow hnil hv1
  go_wp2
  go_ret
  exact ⟨⟨_, _, _, rfl, HC.out⟩, hB⟩
end Go.Proofs.YtbannihkgglpaaaGreat

/-
  Walks: copies of objects: the program.
-/
namespace Go.Proofs.YtbannihkgglpaaaGreat
open Go.RowKit Go.Deep

structure Ob where
  kind : ByteArray
  name : ByteArray
  team : ByteArray
  values : List ByteArray
  ending : Bool
  holds : List ByteArray
  version : Int

/-- An object that is handed in: its lists lie in the blocks b1, b2. -/
structure ObArg (w : World) (b1 b2 : Nat) (o : Ob) : Prop where
  lt1 : b1 < w.heap.size
  lt2 : b2 < w.heap.size
  len1 : o.values.length ≤ 1048576
  len2 : o.holds.length ≤ 1048576
  at1 : ∀ i, i < o.values.length → w.cell? ⟨b1, i, none⟩ = some (.string (o.values.getD i ByteArray.empty))
  at2 : ∀ i, i < o.holds.length → w.cell? ⟨b2, i, none⟩ = some (.string (o.holds.getD i ByteArray.empty))

theorem ObArg.later {w w' : World} {b1 b2 : Nat} {o : Ob} (h : ObArg w b1 b2 o) (hb : Below w.heap.size w w') : ObArg w' b1 b2 o :=
  ⟨Nat.lt_of_lt_of_le h.lt1 hb.size, Nat.lt_of_lt_of_le h.lt2 hb.size, h.len1, h.len2, fun i hi => (hb.cell (p := ⟨b1, i, none⟩) h.lt1).trans (h.at1 i hi), fun i hi => (hb.cell (p := ⟨b2, i, none⟩) h.lt2).trans (h.at2 i hi)⟩

set_option maxHeartbeats 2000000 in
theorem copyObj (o : Ob) (b1 c1 b2 c2 : Nat) (w : World) (h : ObArg w b1 b2 o) :
    Calls Tryz.prog 32 #[.agg #[.string o.kind, .string o.name, .string o.team, .slice (some ⟨b1, 0, none⟩) o.values.length c1, .bool o.ending, .slice (some ⟨b2, 0, none⟩) o.holds.length c2, .int .i64 o.version]] w fun e w' => (∃ a1 n1 d1 a2 n2 d2 mid, e = .returned (.agg #[.string o.kind, .string o.name, .string o.team, .slice a1 n1 d1, .bool o.ending, .slice a2 n2 d2, .int .i64 o.version]) ∧ CT w' w.heap.size mid (.slice a1 n1 d1) o.values ∧ CT w' mid w'.heap.size (.slice a2 n2 d2) o.holds ∧ w.heap.size ≤ mid ∧ mid ≤ w'.heap.size) ∧ Below w.heap.size w w' := by
  have HA : Hid (ObArg w b1 b2 o) := h
  clear h
  have hO0 : OwnBlk ((w.alloc (.cells #[.string o.kind, .string o.name, .string o.team, .slice (some ⟨b1, 0, none⟩) o.values.length c1, .bool o.ending, .slice (some ⟨b2, 0, none⟩) o.holds.length c2, .int .i64 o.version] 30)).alloc (.cells #[.string ⟨#[]⟩, .string ⟨#[]⟩, .string ⟨#[]⟩, .slice none 0 0, .bool false, .slice none 0 0, .int .i64 0] 30)) w.heap.size 30 7 := (OwnBlk.alloc w _ 30 7 rfl).past _
  have hO1 : OwnBlk ((w.alloc (.cells #[.string o.kind, .string o.name, .string o.team, .slice (some ⟨b1, 0, none⟩) o.values.length c1, .bool o.ending, .slice (some ⟨b2, 0, none⟩) o.holds.length c2, .int .i64 o.version] 30)).alloc (.cells #[.string ⟨#[]⟩, .string ⟨#[]⟩, .string ⟨#[]⟩, .slice none 0 0, .bool false, .slice none 0 0, .int .i64 0] 30)) (w.heap.size + 1) 30 7 := by
    have := OwnBlk.alloc (w.alloc (.cells #[.string o.kind, .string o.name, .string o.team, .slice (some ⟨b1, 0, none⟩) o.values.length c1, .bool o.ending, .slice (some ⟨b2, 0, none⟩) o.holds.length c2, .int .i64 o.version] 30)) #[.string ⟨#[]⟩, .string ⟨#[]⟩, .string ⟨#[]⟩, .slice none 0 0, .bool false, .slice none 0 0, .int .i64 0] 30 7 rfl
    have e : (w.alloc (.cells #[.string o.kind, .string o.name, .string o.team, .slice (some ⟨b1, 0, none⟩) o.values.length c1, .bool o.ending, .slice (some ⟨b2, 0, none⟩) o.holds.length c2, .int .i64 o.version] 30)).heap.size = w.heap.size + 1 := by simp
    rw [e] at this
    exact this
  have HO : Hid (OwnBlk ((w.alloc (.cells #[.string o.kind, .string o.name, .string o.team, .slice (some ⟨b1, 0, none⟩) o.values.length c1, .bool o.ending, .slice (some ⟨b2, 0, none⟩) o.holds.length c2, .int .i64 o.version] 30)).alloc (.cells #[.string ⟨#[]⟩, .string ⟨#[]⟩, .string ⟨#[]⟩, .slice none 0 0, .bool false, .slice none 0 0, .int .i64 0] 30)) w.heap.size 30 7 ∧ OwnBlk ((w.alloc (.cells #[.string o.kind, .string o.name, .string o.team, .slice (some ⟨b1, 0, none⟩) o.values.length c1, .bool o.ending, .slice (some ⟨b2, 0, none⟩) o.holds.length c2, .int .i64 o.version] 30)).alloc (.cells #[.string ⟨#[]⟩, .string ⟨#[]⟩, .string ⟨#[]⟩, .slice none 0 0, .bool false, .slice none 0 0, .int .i64 0] 30)) (w.heap.size + 1) 30 7) := ⟨hO0, hO1⟩
  have hB0 : Below w.heap.size w ((w.alloc (.cells #[.string o.kind, .string o.name, .string o.team, .slice (some ⟨b1, 0, none⟩) o.values.length c1, .bool o.ending, .slice (some ⟨b2, 0, none⟩) o.holds.length c2, .int .i64 o.version] 30)).alloc (.cells #[.string ⟨#[]⟩, .string ⟨#[]⟩, .string ⟨#[]⟩, .slice none 0 0, .bool false, .slice none 0 0, .int .i64 0] 30)) := blw_alloc (blw_alloc (Below.refl _ _) _) _
  have HB0 : Hid (Below w.heap.size w ((w.alloc (.cells #[.string o.kind, .string o.name, .string o.team, .slice (some ⟨b1, 0, none⟩) o.values.length c1, .bool o.ending, .slice (some ⟨b2, 0, none⟩) o.holds.length c2, .int .i64 o.version] 30)).alloc (.cells #[.string ⟨#[]⟩, .string ⟨#[]⟩, .string ⟨#[]⟩, .slice none 0 0, .bool false, .slice none 0 0, .int .i64 0] 30))) := hB0
  clear hO0 hO1 hB0
  go_enter Tryz.func32, Tryz.ntmps32
  go_wp2_with fail
  refine (copyTexts b1 c1 o.values _ HA.out.len1 (HA.out.later HB0.out).at1).mono ?_
  rintro e w1 ⟨⟨a1, n1, d1, rfl, hct1⟩, hb1⟩
  have HB1 : Hid (Below w.heap.size w w1) := blw_trans HB0.out hb1
  have HOa1 : Hid (OwnBlk w1 w.heap.size 30 7) := HO.out.1.later hb1
  have HOb1 : Hid (OwnBlk w1 (w.heap.size + 1) 30 7) := HO.out.2.later hb1
  have HC1 : Hid (CT w1 w.heap.size w1.heap.size (.slice a1 n1 d1) o.values ∧ CT w1 (w.heap.size + 2) w1.heap.size (.slice a1 n1 d1) o.values) := by
    have e : ((w.alloc (.cells #[.string o.kind, .string o.name, .string o.team, .slice (some ⟨b1, 0, none⟩) o.values.length c1, .bool o.ending, .slice (some ⟨b2, 0, none⟩) o.holds.length c2, .int .i64 o.version] 30)).alloc (.cells #[.string ⟨#[]⟩, .string ⟨#[]⟩, .string ⟨#[]⟩, .slice none 0 0, .bool false, .slice none 0 0, .int .i64 0] 30)).heap.size = w.heap.size + 2 := by simp
    rw [e] at hct1
    exact ⟨hct1.mono (by omega) (Nat.le_refl _), hct1⟩
  have k1 : ∀ q, w1.cell? ⟨w.heap.size, q, none⟩ = ((w.alloc (.cells #[.string o.kind, .string o.name, .string o.team, .slice (some ⟨b1, 0, none⟩) o.values.length c1, .bool o.ending, .slice (some ⟨b2, 0, none⟩) o.holds.length c2, .int .i64 o.version] 30)).alloc (.cells #[.string ⟨#[]⟩, .string ⟨#[]⟩, .string ⟨#[]⟩, .slice none 0 0, .bool false, .slice none 0 0, .int .i64 0] 30)).cell? ⟨w.heap.size, q, none⟩ := fun q => hb1.cell (p := ⟨w.heap.size, q, none⟩) HO.out.1.lt
  have hz1 := HOa1.out.frozen
  have hs1 : w.heap.size + 1 < w1.heap.size := HOb1.out.lt
  clear hct1 hb1
  go_wp2_with fail
  have HB1' : Hid (Below w.heap.size w (w1.setCell ⟨w.heap.size, 3, none⟩ (.slice a1 n1 d1))) := HB1.out.setCell (p := ⟨w.heap.size, 3, none⟩) (Nat.le_refl _) _
  refine (copyTexts b2 c2 o.holds _ HA.out.len2 (HA.out.later HB1'.out).at2).mono ?_
  rintro e w2 ⟨⟨a2, n2, d2, rfl, hct2⟩, hb2⟩
  have HB2 : Hid (Below w.heap.size w w2) := blw_trans HB1'.out hb2
  have HOa : Hid (OwnBlk (w1.setCell ⟨w.heap.size, 3, none⟩ (.slice a1 n1 d1)) w.heap.size 30 7) := HOa1.out.setCell 3 _
  have HOb : Hid (OwnBlk (w1.setCell ⟨w.heap.size, 3, none⟩ (.slice a1 n1 d1)) (w.heap.size + 1) 30 7) := HOb1.out.sc_other (by omega) 3 _
  have HOa2 : Hid (OwnBlk w2 w.heap.size 30 7) := HOa.out.later hb2
  have HOb2 : Hid (OwnBlk w2 (w.heap.size + 1) 30 7) := HOb.out.later hb2
  have HC2 : Hid (CT w2 (w.heap.size + 2) w1.heap.size (.slice a1 n1 d1) o.values ∧ CT w2 w1.heap.size w2.heap.size (.slice a2 n2 d2) o.holds ∧ w1.heap.size ≤ w2.heap.size) := by
    have e : (w1.setCell ⟨w.heap.size, 3, none⟩ (.slice a1 n1 d1)).heap.size = w1.heap.size := by simp [World.setCell]
    have hsz := hb2.size
    rw [e] at hct2 hsz
    exact ⟨(HC1.out.2.sc (Or.inl (by omega)) 3 _).later hb2, hct2, hsz⟩
  have e0 : w2.cell? ⟨w.heap.size, 0, none⟩ = some (.string o.kind) := ((hb2.cell (p := ⟨w.heap.size, 0, none⟩) HOa.out.lt).trans (sc_ne _ _ _ _ _ _ (Or.inr (by omega)))).trans ((k1 0).trans (by simp))
  have e1 : w2.cell? ⟨w.heap.size, 1, none⟩ = some (.string o.name) := ((hb2.cell (p := ⟨w.heap.size, 1, none⟩) HOa.out.lt).trans (sc_ne _ _ _ _ _ _ (Or.inr (by omega)))).trans ((k1 1).trans (by simp))
  have e2 : w2.cell? ⟨w.heap.size, 2, none⟩ = some (.string o.team) := ((hb2.cell (p := ⟨w.heap.size, 2, none⟩) HOa.out.lt).trans (sc_ne _ _ _ _ _ _ (Or.inr (by omega)))).trans ((k1 2).trans (by simp))
  have e3 : w2.cell? ⟨w.heap.size, 3, none⟩ = some (.slice a1 n1 d1) := (hb2.cell (p := ⟨w.heap.size, 3, none⟩) HOa.out.lt).trans (sc_eq HOa1.out 3 (by omega) _)
  have e4 : w2.cell? ⟨w.heap.size, 4, none⟩ = some (.bool o.ending) := ((hb2.cell (p := ⟨w.heap.size, 4, none⟩) HOa.out.lt).trans (sc_ne _ _ _ _ _ _ (Or.inr (by omega)))).trans ((k1 4).trans (by simp))
  have e5 : w2.cell? ⟨w.heap.size, 5, none⟩ = some (.slice (some ⟨b2, 0, none⟩) o.holds.length c2) := ((hb2.cell (p := ⟨w.heap.size, 5, none⟩) HOa.out.lt).trans (sc_ne _ _ _ _ _ _ (Or.inr (by omega)))).trans ((k1 5).trans (by simp))
  have e6 : w2.cell? ⟨w.heap.size, 6, none⟩ = some (.int .i64 o.version) := ((hb2.cell (p := ⟨w.heap.size, 6, none⟩) HOa.out.lt).trans (sc_ne _ _ _ _ _ _ (Or.inr (by omega)))).trans ((k1 6).trans (by simp))
  have hz2 := HOa2.out.frozen
  have hz2b := HOb2.out.frozen
  obtain ⟨y0, hy0⟩ := HOb2.out.cell 0 (by omega)
  obtain ⟨y1, hy1⟩ := HOb2.out.cell 1 (by omega)
  obtain ⟨y2, hy2⟩ := HOb2.out.cell 2 (by omega)
  obtain ⟨y3, hy3⟩ := HOb2.out.cell 3 (by omega)
  obtain ⟨y4, hy4⟩ := HOb2.out.cell 4 (by omega)
  obtain ⟨y5, hy5⟩ := HOb2.out.cell 5 (by omega)
  obtain ⟨y6, hy6⟩ := HOb2.out.cell 6 (by omega)
  clear hct2 hb2 k1 hz1
  go_wp2
  have HP : Hid (OwnBlk (w2.setCell ⟨w.heap.size, 5, none⟩ (.slice a2 n2 d2)) (w.heap.size + 1) 30 7) := HOb2.out.sc_other (by omega) 5 _
  have r : ∀ j, j < 7 → ((((((((w2.setCell ⟨w.heap.size, 5, none⟩ (.slice a2 n2 d2)).setCell ⟨w.heap.size + 1, 0, none⟩ (.string o.kind)).setCell ⟨w.heap.size + 1, 1, none⟩ (.string o.name)).setCell ⟨w.heap.size + 1, 2, none⟩ (.string o.team)).setCell ⟨w.heap.size + 1, 3, none⟩ (.slice a1 n1 d1)).setCell ⟨w.heap.size + 1, 4, none⟩ (.bool o.ending)).setCell ⟨w.heap.size + 1, 5, none⟩ (.slice a2 n2 d2)).setCell ⟨w.heap.size + 1, 6, none⟩ (.int .i64 o.version)).cell? ⟨w.heap.size + 1, 0 + (0 + j), none⟩ = ([.string o.kind, .string o.name, .string o.team, .slice a1 n1 d1, .bool o.ending, .slice a2 n2 d2, .int .i64 o.version] : List Value)[j]? := fun j hj => puts_at 0 [.string o.kind, .string o.name, .string o.team, .slice a1 n1 d1, .bool o.ending, .slice a2 n2 d2, .int .i64 o.version] (w2.setCell ⟨w.heap.size, 5, none⟩ (.slice a2 n2 d2)) 0 HP.out (by simp) j (by simpa using hj)
  have r0 : ((((((((w2.setCell ⟨w.heap.size, 5, none⟩ (.slice a2 n2 d2)).setCell ⟨w.heap.size + 1, 0, none⟩ (.string o.kind)).setCell ⟨w.heap.size + 1, 1, none⟩ (.string o.name)).setCell ⟨w.heap.size + 1, 2, none⟩ (.string o.team)).setCell ⟨w.heap.size + 1, 3, none⟩ (.slice a1 n1 d1)).setCell ⟨w.heap.size + 1, 4, none⟩ (.bool o.ending)).setCell ⟨w.heap.size + 1, 5, none⟩ (.slice a2 n2 d2)).setCell ⟨w.heap.size + 1, 6, none⟩ (.int .i64 o.version)).cell? ⟨w.heap.size + 1, 0, none⟩ = some (.string o.kind) := r 0 (by omega)
  have r1 : ((((((((w2.setCell ⟨w.heap.size, 5, none⟩ (.slice a2 n2 d2)).setCell ⟨w.heap.size + 1, 0, none⟩ (.string o.kind)).setCell ⟨w.heap.size + 1, 1, none⟩ (.string o.name)).setCell ⟨w.heap.size + 1, 2, none⟩ (.string o.team)).setCell ⟨w.heap.size + 1, 3, none⟩ (.slice a1 n1 d1)).setCell ⟨w.heap.size + 1, 4, none⟩ (.bool o.ending)).setCell ⟨w.heap.size + 1, 5, none⟩ (.slice a2 n2 d2)).setCell ⟨w.heap.size + 1, 6, none⟩ (.int .i64 o.version)).cell? ⟨w.heap.size + 1, 1, none⟩ = some (.string o.name) := r 1 (by omega)
  have r2 : ((((((((w2.setCell ⟨w.heap.size, 5, none⟩ (.slice a2 n2 d2)).setCell ⟨w.heap.size + 1, 0, none⟩ (.string o.kind)).setCell ⟨w.heap.size + 1, 1, none⟩ (.string o.name)).setCell ⟨w.heap.size + 1, 2, none⟩ (.string o.team)).setCell ⟨w.heap.size + 1, 3, none⟩ (.slice a1 n1 d1)).setCell ⟨w.heap.size + 1, 4, none⟩ (.bool o.ending)).setCell ⟨w.heap.size + 1, 5, none⟩ (.slice a2 n2 d2)).setCell ⟨w.heap.size + 1, 6, none⟩ (.int .i64 o.version)).cell? ⟨w.heap.size + 1, 2, none⟩ = some (.string o.team) := r 2 (by omega)
  have r3 : ((((((((w2.setCell ⟨w.heap.size, 5, none⟩ (.slice a2 n2 d2)).setCell ⟨w.heap.size + 1, 0, none⟩ (.string o.kind)).setCell ⟨w.heap.size + 1, 1, none⟩ (.string o.name)).setCell ⟨w.heap.size + 1, 2, none⟩ (.string o.team)).setCell ⟨w.heap.size + 1, 3, none⟩ (.slice a1 n1 d1)).setCell ⟨w.heap.size + 1, 4, none⟩ (.bool o.ending)).setCell ⟨w.heap.size + 1, 5, none⟩ (.slice a2 n2 d2)).setCell ⟨w.heap.size + 1, 6, none⟩ (.int .i64 o.version)).cell? ⟨w.heap.size + 1, 3, none⟩ = some (.slice a1 n1 d1) := r 3 (by omega)
  have r4 : ((((((((w2.setCell ⟨w.heap.size, 5, none⟩ (.slice a2 n2 d2)).setCell ⟨w.heap.size + 1, 0, none⟩ (.string o.kind)).setCell ⟨w.heap.size + 1, 1, none⟩ (.string o.name)).setCell ⟨w.heap.size + 1, 2, none⟩ (.string o.team)).setCell ⟨w.heap.size + 1, 3, none⟩ (.slice a1 n1 d1)).setCell ⟨w.heap.size + 1, 4, none⟩ (.bool o.ending)).setCell ⟨w.heap.size + 1, 5, none⟩ (.slice a2 n2 d2)).setCell ⟨w.heap.size + 1, 6, none⟩ (.int .i64 o.version)).cell? ⟨w.heap.size + 1, 4, none⟩ = some (.bool o.ending) := r 4 (by omega)
  have r5 : ((((((((w2.setCell ⟨w.heap.size, 5, none⟩ (.slice a2 n2 d2)).setCell ⟨w.heap.size + 1, 0, none⟩ (.string o.kind)).setCell ⟨w.heap.size + 1, 1, none⟩ (.string o.name)).setCell ⟨w.heap.size + 1, 2, none⟩ (.string o.team)).setCell ⟨w.heap.size + 1, 3, none⟩ (.slice a1 n1 d1)).setCell ⟨w.heap.size + 1, 4, none⟩ (.bool o.ending)).setCell ⟨w.heap.size + 1, 5, none⟩ (.slice a2 n2 d2)).setCell ⟨w.heap.size + 1, 6, none⟩ (.int .i64 o.version)).cell? ⟨w.heap.size + 1, 5, none⟩ = some (.slice a2 n2 d2) := r 5 (by omega)
  have r6 : ((((((((w2.setCell ⟨w.heap.size, 5, none⟩ (.slice a2 n2 d2)).setCell ⟨w.heap.size + 1, 0, none⟩ (.string o.kind)).setCell ⟨w.heap.size + 1, 1, none⟩ (.string o.name)).setCell ⟨w.heap.size + 1, 2, none⟩ (.string o.team)).setCell ⟨w.heap.size + 1, 3, none⟩ (.slice a1 n1 d1)).setCell ⟨w.heap.size + 1, 4, none⟩ (.bool o.ending)).setCell ⟨w.heap.size + 1, 5, none⟩ (.slice a2 n2 d2)).setCell ⟨w.heap.size + 1, 6, none⟩ (.int .i64 o.version)).cell? ⟨w.heap.size + 1, 6, none⟩ = some (.int .i64 o.version) := r 6 (by omega)
  have hct : ∀ {lo hi : Nat} {v : Value} {ss : List ByteArray}, CT w2 lo hi v ss → w.heap.size + 1 < lo → CT ((((((((w2.setCell ⟨w.heap.size, 5, none⟩ (.slice a2 n2 d2)).setCell ⟨w.heap.size + 1, 0, none⟩ (.string o.kind)).setCell ⟨w.heap.size + 1, 1, none⟩ (.string o.name)).setCell ⟨w.heap.size + 1, 2, none⟩ (.string o.team)).setCell ⟨w.heap.size + 1, 3, none⟩ (.slice a1 n1 d1)).setCell ⟨w.heap.size + 1, 4, none⟩ (.bool o.ending)).setCell ⟨w.heap.size + 1, 5, none⟩ (.slice a2 n2 d2)).setCell ⟨w.heap.size + 1, 6, none⟩ (.int .i64 o.version)) lo hi v ss := fun h hlo => (((((((h.sc (Or.inl (by omega)) _ _).sc (Or.inl hlo) _ _).sc (Or.inl hlo) _ _).sc (Or.inl hlo) _ _).sc (Or.inl hlo) _ _).sc (Or.inl hlo) _ _).sc (Or.inl hlo) _ _).sc (Or.inl hlo) _ _
  have hsz : ((((((((w2.setCell ⟨w.heap.size, 5, none⟩ (.slice a2 n2 d2)).setCell ⟨w.heap.size + 1, 0, none⟩ (.string o.kind)).setCell ⟨w.heap.size + 1, 1, none⟩ (.string o.name)).setCell ⟨w.heap.size + 1, 2, none⟩ (.string o.team)).setCell ⟨w.heap.size + 1, 3, none⟩ (.slice a1 n1 d1)).setCell ⟨w.heap.size + 1, 4, none⟩ (.bool o.ending)).setCell ⟨w.heap.size + 1, 5, none⟩ (.slice a2 n2 d2)).setCell ⟨w.heap.size + 1, 6, none⟩ (.int .i64 o.version)).heap.size = w2.heap.size := by simp [World.setCell]
  refine bodyPost_ret (v := .agg #[.string o.kind, .string o.name, .string o.team, .slice a1 n1 d1, .bool o.ending, .slice a2 n2 d2, .int .i64 o.version]) (by simp only [results, Tryz.results32]; simp [go_sem, r0, r1, r2, r3, r4, r5, r6]) rfl ⟨⟨_, _, _, _, _, _, w1.heap.size, rfl, (hct HC2.out.1 (by omega)).mono (by omega) (Nat.le_refl _), ?_, by omega, ?_⟩, ?_⟩
  · rw [hsz]; exact hct HC2.out.2.1 (by omega)
  · rw [hsz]; exact HC2.out.2.2
  · exact puts_below (a := w) 0 (B := w.heap.size + 1) (by omega) [.string o.kind, .string o.name, .string o.team, .slice a1 n1 d1, .bool o.ending, .slice a2 n2 d2, .int .i64 o.version] (w2.setCell ⟨w.heap.size, 5, none⟩ (.slice a2 n2 d2)) 0 (HB2.out.setCell (p := ⟨w.heap.size, 5, none⟩) (Nat.le_refl _) _)
end Go.Proofs.YtbannihkgglpaaaGreat

namespace Go.Proofs.YtbannihkgglpaaaGreat
open Go.RowKit Go.Deep

theorem sc_size' (w : World) (a : Addr) (v : Value) : (w.setCell a v).heap.size = w.heap.size := by simp [World.setCell]

theorem src_cells {w : World} {b : Nat} {ss : List ByteArray} (hc : ∀ i, i < ss.length → w.cell? ⟨b, i, none⟩ = some (.string (ss.getD i ByteArray.empty))) :
    ∀ j u, (ss.map Value.string)[j]? = some u → w.cell? (Addr.add ⟨b, 0, none⟩ j) = some u := by
  intro j u hj
  rw [List.getElem?_map] at hj
  cases hq : ss[j]? with
  | none => rw [hq] at hj; cases hj
  | some s =>
    rw [hq] at hj
    have hjl : j < ss.length := by
      by_cases hjl : j < ss.length
      · exact hjl
      · rw [List.getElem?_eq_none (by omega)] at hq; cases hq
    have := hc j hjl
    have e : ss.getD j ByteArray.empty = s := by simp [hq]
    rw [e] at this
    injection hj with hj
    rw [← hj]
    by_cases h0 : j = 0
    · subst h0; simpa [Addr.add] using this
    · simpa [Addr.add, h0] using this

theorem one_cells (ss : List ByteArray) : ∀ u ∈ ss.map Value.string, u.oneCell' = true := by
  intro u hu; simp at hu; obtain ⟨s, _, rfl⟩ := hu; rfl

theorem owns_empty (W : World) (base : Nat) (h : base ≤ W.heap.size) : (W.alloc (.cells #[] 9)).ownsRow base 9 1 (.slice (some ⟨W.heap.size, 0, none⟩) 0 0) 0 [] :=
  ⟨rfl, Or.inr ⟨W.heap.size, 0, #[], rfl, h, by show (W.heap.push _)[W.heap.size]? = _; simp, Nat.le_refl _, by unfold maxLen; omega, rfl, rfl⟩⟩

theorem OwnBlk.laterB {w w' : World} {B b : Nat} {t : TypeId} {m : Nat} (h : OwnBlk w b t m) (hb : Below B w w') (hlt : b < B) : OwnBlk w' b t m := by
  obtain ⟨cs, h1, h2⟩ := h
  exact ⟨cs, by rw [hb.block b hlt]; exact h1, h2⟩

set_option maxHeartbeats 2000000 in
theorem l2Copy (o : Ob) (b1 c1 b2 c2 : Nat) (w : World) (h : ObArg w b1 b2 o) :
    Calls Tryz.prog 26 #[.agg #[.string o.kind, .string o.name, .string o.team, .slice (some ⟨b1, 0, none⟩) o.values.length c1, .bool o.ending, .slice (some ⟨b2, 0, none⟩) o.holds.length c2, .int .i64 o.version]] w fun e w' => (∃ a1 n1 d1 a2 n2 d2 mid, e = .returned (.agg #[.string o.kind, .string o.name, .string o.team, .slice a1 n1 d1, .bool o.ending, .slice a2 n2 d2, .int .i64 o.version]) ∧ CT w' w.heap.size mid (.slice a1 n1 d1) o.values ∧ CT w' mid w'.heap.size (.slice a2 n2 d2) o.holds ∧ w.heap.size ≤ mid ∧ mid ≤ w'.heap.size) ∧ Below w.heap.size w w' := by
  have HA : Hid (ObArg w b1 b2 o) := h
  have hl1 := h.len1
  have hl2 := h.len2
  clear h
  have hO0 : OwnBlk ((w.alloc (.cells #[.string o.kind, .string o.name, .string o.team, .slice (some ⟨b1, 0, none⟩) o.values.length c1, .bool o.ending, .slice (some ⟨b2, 0, none⟩) o.holds.length c2, .int .i64 o.version] 30)).alloc (.cells #[.string ⟨#[]⟩, .string ⟨#[]⟩, .string ⟨#[]⟩, .slice none 0 0, .bool false, .slice none 0 0, .int .i64 0] 30)) w.heap.size 30 7 := (OwnBlk.alloc w _ 30 7 rfl).past _
  have hO1 : OwnBlk ((w.alloc (.cells #[.string o.kind, .string o.name, .string o.team, .slice (some ⟨b1, 0, none⟩) o.values.length c1, .bool o.ending, .slice (some ⟨b2, 0, none⟩) o.holds.length c2, .int .i64 o.version] 30)).alloc (.cells #[.string ⟨#[]⟩, .string ⟨#[]⟩, .string ⟨#[]⟩, .slice none 0 0, .bool false, .slice none 0 0, .int .i64 0] 30)) (w.heap.size + 1) 30 7 := by
    have := OwnBlk.alloc (w.alloc (.cells #[.string o.kind, .string o.name, .string o.team, .slice (some ⟨b1, 0, none⟩) o.values.length c1, .bool o.ending, .slice (some ⟨b2, 0, none⟩) o.holds.length c2, .int .i64 o.version] 30)) #[.string ⟨#[]⟩, .string ⟨#[]⟩, .string ⟨#[]⟩, .slice none 0 0, .bool false, .slice none 0 0, .int .i64 0] 30 7 rfl
    have e : (w.alloc (.cells #[.string o.kind, .string o.name, .string o.team, .slice (some ⟨b1, 0, none⟩) o.values.length c1, .bool o.ending, .slice (some ⟨b2, 0, none⟩) o.holds.length c2, .int .i64 o.version] 30)).heap.size = w.heap.size + 1 := by simp
    rw [e] at this
    exact this
  have HO : Hid (OwnBlk (((w.alloc (.cells #[.string o.kind, .string o.name, .string o.team, .slice (some ⟨b1, 0, none⟩) o.values.length c1, .bool o.ending, .slice (some ⟨b2, 0, none⟩) o.holds.length c2, .int .i64 o.version] 30)).alloc (.cells #[.string ⟨#[]⟩, .string ⟨#[]⟩, .string ⟨#[]⟩, .slice none 0 0, .bool false, .slice none 0 0, .int .i64 0] 30)).alloc (.cells #[] 9)) w.heap.size 30 7 ∧ OwnBlk (((w.alloc (.cells #[.string o.kind, .string o.name, .string o.team, .slice (some ⟨b1, 0, none⟩) o.values.length c1, .bool o.ending, .slice (some ⟨b2, 0, none⟩) o.holds.length c2, .int .i64 o.version] 30)).alloc (.cells #[.string ⟨#[]⟩, .string ⟨#[]⟩, .string ⟨#[]⟩, .slice none 0 0, .bool false, .slice none 0 0, .int .i64 0] 30)).alloc (.cells #[] 9)) (w.heap.size + 1) 30 7) := ⟨hO0.past _, hO1.past _⟩
  have HB0 : Hid (Below w.heap.size w (((w.alloc (.cells #[.string o.kind, .string o.name, .string o.team, .slice (some ⟨b1, 0, none⟩) o.values.length c1, .bool o.ending, .slice (some ⟨b2, 0, none⟩) o.holds.length c2, .int .i64 o.version] 30)).alloc (.cells #[.string ⟨#[]⟩, .string ⟨#[]⟩, .string ⟨#[]⟩, .slice none 0 0, .bool false, .slice none 0 0, .int .i64 0] 30)).alloc (.cells #[] 9))) := blw_alloc (blw_alloc (blw_alloc (Below.refl _ _) _) _) _
  clear hO0 hO1
  obtain ⟨i0, hi, hz0, hz1, hz2⟩ := info_parts Tryz.info9
  go_enter Tryz.func26, Tryz.ntmps26
  go_wp2_with (at_builtin; refine wpList_append_own _ rfl _ _ 24 rfl (w.heap.size + 2) 9 i0 (.string ByteArray.empty) 1 16 Tryz.underlying24 hi hz0 hz1 hz2 rfl (by decide) _ 0 [] rfl ?c0 ⟨b1, 0, none⟩ o.values.length c1 (o.values.map Value.string) rfl ?c1 ?c2 ?c3 ?c4 ?c5 ?c6 ?_)
  case c0 =>
    have := owns_empty ((w.alloc (.cells #[.string o.kind, .string o.name, .string o.team, .slice (some ⟨b1, 0, none⟩) o.values.length c1, .bool o.ending, .slice (some ⟨b2, 0, none⟩) o.holds.length c2, .int .i64 o.version] 30)).alloc (.cells #[.string ⟨#[]⟩, .string ⟨#[]⟩, .string ⟨#[]⟩, .slice none 0 0, .bool false, .slice none 0 0, .int .i64 0] 30)) (w.heap.size + 2) (by simp)
    have e : ((w.alloc (.cells #[.string o.kind, .string o.name, .string o.team, .slice (some ⟨b1, 0, none⟩) o.values.length c1, .bool o.ending, .slice (some ⟨b2, 0, none⟩) o.holds.length c2, .int .i64 o.version] 30)).alloc (.cells #[.string ⟨#[]⟩, .string ⟨#[]⟩, .string ⟨#[]⟩, .slice none 0 0, .bool false, .slice none 0 0, .int .i64 0] 30)).heap.size = w.heap.size + 1 + 1 := by simp
    rw [e] at this
    exact this
  case c1 => simp
  case c2 => exact src_cells (HA.out.later HB0.out).at1
  case c3 => exact one_cells _
  case c4 => unfold maxLen; omega
  case c5 => omega
  case c6 => simp
  intro v1 w1 hown hgrow _
  have hct1 : CT w1 (w.heap.size + 2) w1.heap.size v1 o.values := CT.of_owns (by simpa using hown)
  have hb1 : Below (w.heap.size + 2) (((w.alloc (.cells #[.string o.kind, .string o.name, .string o.team, .slice (some ⟨b1, 0, none⟩) o.values.length c1, .bool o.ending, .slice (some ⟨b2, 0, none⟩) o.holds.length c2, .int .i64 o.version] 30)).alloc (.cells #[.string ⟨#[]⟩, .string ⟨#[]⟩, .string ⟨#[]⟩, .slice none 0 0, .bool false, .slice none 0 0, .int .i64 0] 30)).alloc (.cells #[] 9)) w1 := Below.grown (Below.refl _ _) hgrow (by simp) (fun k e => by injection e with e; subst e; exact Nat.le_refl _)
  obtain ⟨a1, n1, d1, hv1⟩ : ∃ a n c, v1 = .slice a n c := by
    rcases hct1 with ⟨h, _⟩ | ⟨g, cap, h, _⟩
    · exact ⟨_, _, _, h⟩
    · exact ⟨_, _, _, h⟩
  rw [hv1] at hct1 ⊢
  have HB1 : Hid (Below w.heap.size w w1) := HB0.out.trans (hb1.mono (by omega))
  have HOa1 : Hid (OwnBlk w1 w.heap.size 30 7) := HO.out.1.laterB hb1 (by omega)
  have HOb1 : Hid (OwnBlk w1 (w.heap.size + 1) 30 7) := HO.out.2.laterB hb1 (by omega)
  have HC1 : Hid (CT w1 (w.heap.size + 2) w1.heap.size (.slice a1 n1 d1) o.values) := hct1
  have k1 : ∀ q, w1.cell? ⟨w.heap.size, q, none⟩ = ((w.alloc (.cells #[.string o.kind, .string o.name, .string o.team, .slice (some ⟨b1, 0, none⟩) o.values.length c1, .bool o.ending, .slice (some ⟨b2, 0, none⟩) o.holds.length c2, .int .i64 o.version] 30)).alloc (.cells #[.string ⟨#[]⟩, .string ⟨#[]⟩, .string ⟨#[]⟩, .slice none 0 0, .bool false, .slice none 0 0, .int .i64 0] 30)).cell? ⟨w.heap.size, q, none⟩ := fun q => (hb1.cell (p := ⟨w.heap.size, q, none⟩) (by show w.heap.size < w.heap.size + 2; omega)).trans (World.cell?_alloc_past _ _ _ (by simp; omega))
  have hz1' := HOa1.out.frozen
  have hs1 : w.heap.size + 2 < w1.heap.size := by have := hb1.size; simp at this; omega
  have hs1a : w.heap.size < w1.heap.size := by omega
  have hs1b : w.heap.size + 1 < w1.heap.size := by omega
  clear hct1 hb1 hown hgrow hv1
  have HB1' : Hid (Below w.heap.size w ((w1.setCell ⟨w.heap.size, 3, none⟩ (.slice a1 n1 d1)).alloc (.cells #[] 9))) := blw_alloc (HB1.out.setCell (p := ⟨w.heap.size, 3, none⟩) (Nat.le_refl _) _) _
  go_wp2_with (at_builtin; refine wpList_append_own _ rfl _ _ 24 rfl w1.heap.size 9 i0 (.string ByteArray.empty) 1 16 Tryz.underlying24 hi hz0 hz1 hz2 rfl (by decide) _ 0 [] rfl ?c0 ⟨b2, 0, none⟩ o.holds.length c2 (o.holds.map Value.string) rfl ?c1 ?c2 ?c3 ?c4 ?c5 ?c6 ?_)
  case c0 =>
    have := owns_empty (w1.setCell ⟨w.heap.size, 3, none⟩ (.slice a1 n1 d1)) w1.heap.size (by simp [World.setCell])
    have e : (w1.setCell ⟨w.heap.size, 3, none⟩ (.slice a1 n1 d1)).heap.size = w1.heap.size := sc_size' _ _ _
    rw [e] at this
    exact this
  case c1 => simp
  case c2 => exact src_cells (HA.out.later HB1'.out).at2
  case c3 => exact one_cells _
  case c4 => unfold maxLen; omega
  case c5 => omega
  case c6 => simp [World.setCell]
  intro v2 w2 hown hgrow _
  have hct2 : CT w2 w1.heap.size w2.heap.size v2 o.holds := CT.of_owns (by simpa using hown)
  have hb2 : Below w1.heap.size ((w1.setCell ⟨w.heap.size, 3, none⟩ (.slice a1 n1 d1)).alloc (.cells #[] 9)) w2 := Below.grown (Below.refl _ _) hgrow (by simp [World.setCell]) (fun k e => by injection e with e; subst e; exact Nat.le_refl _)
  obtain ⟨a2, n2, d2, hv2⟩ : ∃ a n c, v2 = .slice a n c := by
    rcases hct2 with ⟨h, _⟩ | ⟨g, cap, h, _⟩
    · exact ⟨_, _, _, h⟩
    · exact ⟨_, _, _, h⟩
  rw [hv2] at hct2 ⊢
  have HB2 : Hid (Below w.heap.size w w2) := HB1'.out.trans (hb2.mono (by omega))
  have HOa2 : Hid (OwnBlk w2 w.heap.size 30 7) := ((HOa1.out.setCell 3 _).past _).laterB hb2 hs1a
  have HOb2 : Hid (OwnBlk w2 (w.heap.size + 1) 30 7) := ((HOb1.out.sc_other (by omega) 3 _).past _).laterB hb2 hs1b
  have hsz2 : w1.heap.size ≤ w2.heap.size := by have := hb2.size; simp [World.setCell] at this; omega
  have HC2 : Hid (CT w2 (w.heap.size + 2) w1.heap.size (.slice a1 n1 d1) o.values ∧ CT w2 w1.heap.size w2.heap.size (.slice a2 n2 d2) o.holds ∧ w1.heap.size ≤ w2.heap.size) := by
    refine ⟨?_, hct2, hsz2⟩
    have h1 : CT ((w1.setCell ⟨w.heap.size, 3, none⟩ (.slice a1 n1 d1)).alloc (.cells #[] 9)) (w.heap.size + 2) w1.heap.size (.slice a1 n1 d1) o.values := (HC1.out.sc (Or.inl (by omega)) 3 _).later (blw_alloc (Below.refl _ _) _)
    rcases h1 with h | ⟨g, cap, e, g1, g2, g3, g4, g5⟩
    · exact Or.inl h
    · exact Or.inr ⟨g, cap, e, g1, g2, g3.laterB hb2 g2, g4, fun i hi => (hb2.cell (p := ⟨g, i, none⟩) g2).trans (g5 i hi)⟩
  have e0 : w2.cell? ⟨w.heap.size, 0, none⟩ = some (.string o.kind) := ((hb2.cell (p := ⟨w.heap.size, 0, none⟩) hs1a).trans ((World.cell?_alloc_past (w := (w1.setCell ⟨w.heap.size, 3, none⟩ (.slice a1 n1 d1))) _ w.heap.size 0 (by rw [sc_size']; omega)).trans (sc_ne _ _ _ _ _ _ (Or.inr (by omega))))).trans ((k1 0).trans (by simp))
  have e1 : w2.cell? ⟨w.heap.size, 1, none⟩ = some (.string o.name) := ((hb2.cell (p := ⟨w.heap.size, 1, none⟩) hs1a).trans ((World.cell?_alloc_past (w := (w1.setCell ⟨w.heap.size, 3, none⟩ (.slice a1 n1 d1))) _ w.heap.size 1 (by rw [sc_size']; omega)).trans (sc_ne _ _ _ _ _ _ (Or.inr (by omega))))).trans ((k1 1).trans (by simp))
  have e2 : w2.cell? ⟨w.heap.size, 2, none⟩ = some (.string o.team) := ((hb2.cell (p := ⟨w.heap.size, 2, none⟩) hs1a).trans ((World.cell?_alloc_past (w := (w1.setCell ⟨w.heap.size, 3, none⟩ (.slice a1 n1 d1))) _ w.heap.size 2 (by rw [sc_size']; omega)).trans (sc_ne _ _ _ _ _ _ (Or.inr (by omega))))).trans ((k1 2).trans (by simp))
  have e3 : w2.cell? ⟨w.heap.size, 3, none⟩ = some (.slice a1 n1 d1) := (hb2.cell (p := ⟨w.heap.size, 3, none⟩) hs1a).trans ((World.cell?_alloc_past (w := (w1.setCell ⟨w.heap.size, 3, none⟩ (.slice a1 n1 d1))) _ w.heap.size 3 (by rw [sc_size']; omega)).trans (sc_eq HOa1.out 3 (by omega) _))
  have e4 : w2.cell? ⟨w.heap.size, 4, none⟩ = some (.bool o.ending) := ((hb2.cell (p := ⟨w.heap.size, 4, none⟩) hs1a).trans ((World.cell?_alloc_past (w := (w1.setCell ⟨w.heap.size, 3, none⟩ (.slice a1 n1 d1))) _ w.heap.size 4 (by rw [sc_size']; omega)).trans (sc_ne _ _ _ _ _ _ (Or.inr (by omega))))).trans ((k1 4).trans (by simp))
  have e5 : w2.cell? ⟨w.heap.size, 5, none⟩ = some (.slice (some ⟨b2, 0, none⟩) o.holds.length c2) := ((hb2.cell (p := ⟨w.heap.size, 5, none⟩) hs1a).trans ((World.cell?_alloc_past (w := (w1.setCell ⟨w.heap.size, 3, none⟩ (.slice a1 n1 d1))) _ w.heap.size 5 (by rw [sc_size']; omega)).trans (sc_ne _ _ _ _ _ _ (Or.inr (by omega))))).trans ((k1 5).trans (by simp))
  have e6 : w2.cell? ⟨w.heap.size, 6, none⟩ = some (.int .i64 o.version) := ((hb2.cell (p := ⟨w.heap.size, 6, none⟩) hs1a).trans ((World.cell?_alloc_past (w := (w1.setCell ⟨w.heap.size, 3, none⟩ (.slice a1 n1 d1))) _ w.heap.size 6 (by rw [sc_size']; omega)).trans (sc_ne _ _ _ _ _ _ (Or.inr (by omega))))).trans ((k1 6).trans (by simp))
  have hz2a := HOa2.out.frozen
  have hz2b := HOb2.out.frozen
  obtain ⟨y0, hy0⟩ := HOb2.out.cell 0 (by omega)
  obtain ⟨y1, hy1⟩ := HOb2.out.cell 1 (by omega)
  obtain ⟨y2, hy2⟩ := HOb2.out.cell 2 (by omega)
  obtain ⟨y3, hy3⟩ := HOb2.out.cell 3 (by omega)
  obtain ⟨y4, hy4⟩ := HOb2.out.cell 4 (by omega)
  obtain ⟨y5, hy5⟩ := HOb2.out.cell 5 (by omega)
  obtain ⟨y6, hy6⟩ := HOb2.out.cell 6 (by omega)
  clear hct2 hb2 k1 hz1' hown hgrow hv2
  go_wp2
  have HP : Hid (OwnBlk (w2.setCell ⟨w.heap.size, 5, none⟩ (.slice a2 n2 d2)) (w.heap.size + 1) 30 7) := HOb2.out.sc_other (by omega) 5 _
  have r : ∀ j, j < 7 → ((((((((w2.setCell ⟨w.heap.size, 5, none⟩ (.slice a2 n2 d2)).setCell ⟨w.heap.size + 1, 0, none⟩ (.string o.kind)).setCell ⟨w.heap.size + 1, 1, none⟩ (.string o.name)).setCell ⟨w.heap.size + 1, 2, none⟩ (.string o.team)).setCell ⟨w.heap.size + 1, 3, none⟩ (.slice a1 n1 d1)).setCell ⟨w.heap.size + 1, 4, none⟩ (.bool o.ending)).setCell ⟨w.heap.size + 1, 5, none⟩ (.slice a2 n2 d2)).setCell ⟨w.heap.size + 1, 6, none⟩ (.int .i64 o.version)).cell? ⟨w.heap.size + 1, 0 + (0 + j), none⟩ = ([.string o.kind, .string o.name, .string o.team, .slice a1 n1 d1, .bool o.ending, .slice a2 n2 d2, .int .i64 o.version] : List Value)[j]? := fun j hj => puts_at 0 [.string o.kind, .string o.name, .string o.team, .slice a1 n1 d1, .bool o.ending, .slice a2 n2 d2, .int .i64 o.version] (w2.setCell ⟨w.heap.size, 5, none⟩ (.slice a2 n2 d2)) 0 HP.out (by simp) j (by simpa using hj)
  have r0 : ((((((((w2.setCell ⟨w.heap.size, 5, none⟩ (.slice a2 n2 d2)).setCell ⟨w.heap.size + 1, 0, none⟩ (.string o.kind)).setCell ⟨w.heap.size + 1, 1, none⟩ (.string o.name)).setCell ⟨w.heap.size + 1, 2, none⟩ (.string o.team)).setCell ⟨w.heap.size + 1, 3, none⟩ (.slice a1 n1 d1)).setCell ⟨w.heap.size + 1, 4, none⟩ (.bool o.ending)).setCell ⟨w.heap.size + 1, 5, none⟩ (.slice a2 n2 d2)).setCell ⟨w.heap.size + 1, 6, none⟩ (.int .i64 o.version)).cell? ⟨w.heap.size + 1, 0, none⟩ = some (.string o.kind) := r 0 (by omega)
  have r1 : ((((((((w2.setCell ⟨w.heap.size, 5, none⟩ (.slice a2 n2 d2)).setCell ⟨w.heap.size + 1, 0, none⟩ (.string o.kind)).setCell ⟨w.heap.size + 1, 1, none⟩ (.string o.name)).setCell ⟨w.heap.size + 1, 2, none⟩ (.string o.team)).setCell ⟨w.heap.size + 1, 3, none⟩ (.slice a1 n1 d1)).setCell ⟨w.heap.size + 1, 4, none⟩ (.bool o.ending)).setCell ⟨w.heap.size + 1, 5, none⟩ (.slice a2 n2 d2)).setCell ⟨w.heap.size + 1, 6, none⟩ (.int .i64 o.version)).cell? ⟨w.heap.size + 1, 1, none⟩ = some (.string o.name) := r 1 (by omega)
  have r2 : ((((((((w2.setCell ⟨w.heap.size, 5, none⟩ (.slice a2 n2 d2)).setCell ⟨w.heap.size + 1, 0, none⟩ (.string o.kind)).setCell ⟨w.heap.size + 1, 1, none⟩ (.string o.name)).setCell ⟨w.heap.size + 1, 2, none⟩ (.string o.team)).setCell ⟨w.heap.size + 1, 3, none⟩ (.slice a1 n1 d1)).setCell ⟨w.heap.size + 1, 4, none⟩ (.bool o.ending)).setCell ⟨w.heap.size + 1, 5, none⟩ (.slice a2 n2 d2)).setCell ⟨w.heap.size + 1, 6, none⟩ (.int .i64 o.version)).cell? ⟨w.heap.size + 1, 2, none⟩ = some (.string o.team) := r 2 (by omega)
  have r3 : ((((((((w2.setCell ⟨w.heap.size, 5, none⟩ (.slice a2 n2 d2)).setCell ⟨w.heap.size + 1, 0, none⟩ (.string o.kind)).setCell ⟨w.heap.size + 1, 1, none⟩ (.string o.name)).setCell ⟨w.heap.size + 1, 2, none⟩ (.string o.team)).setCell ⟨w.heap.size + 1, 3, none⟩ (.slice a1 n1 d1)).setCell ⟨w.heap.size + 1, 4, none⟩ (.bool o.ending)).setCell ⟨w.heap.size + 1, 5, none⟩ (.slice a2 n2 d2)).setCell ⟨w.heap.size + 1, 6, none⟩ (.int .i64 o.version)).cell? ⟨w.heap.size + 1, 3, none⟩ = some (.slice a1 n1 d1) := r 3 (by omega)
  have r4 : ((((((((w2.setCell ⟨w.heap.size, 5, none⟩ (.slice a2 n2 d2)).setCell ⟨w.heap.size + 1, 0, none⟩ (.string o.kind)).setCell ⟨w.heap.size + 1, 1, none⟩ (.string o.name)).setCell ⟨w.heap.size + 1, 2, none⟩ (.string o.team)).setCell ⟨w.heap.size + 1, 3, none⟩ (.slice a1 n1 d1)).setCell ⟨w.heap.size + 1, 4, none⟩ (.bool o.ending)).setCell ⟨w.heap.size + 1, 5, none⟩ (.slice a2 n2 d2)).setCell ⟨w.heap.size + 1, 6, none⟩ (.int .i64 o.version)).cell? ⟨w.heap.size + 1, 4, none⟩ = some (.bool o.ending) := r 4 (by omega)
  have r5 : ((((((((w2.setCell ⟨w.heap.size, 5, none⟩ (.slice a2 n2 d2)).setCell ⟨w.heap.size + 1, 0, none⟩ (.string o.kind)).setCell ⟨w.heap.size + 1, 1, none⟩ (.string o.name)).setCell ⟨w.heap.size + 1, 2, none⟩ (.string o.team)).setCell ⟨w.heap.size + 1, 3, none⟩ (.slice a1 n1 d1)).setCell ⟨w.heap.size + 1, 4, none⟩ (.bool o.ending)).setCell ⟨w.heap.size + 1, 5, none⟩ (.slice a2 n2 d2)).setCell ⟨w.heap.size + 1, 6, none⟩ (.int .i64 o.version)).cell? ⟨w.heap.size + 1, 5, none⟩ = some (.slice a2 n2 d2) := r 5 (by omega)
  have r6 : ((((((((w2.setCell ⟨w.heap.size, 5, none⟩ (.slice a2 n2 d2)).setCell ⟨w.heap.size + 1, 0, none⟩ (.string o.kind)).setCell ⟨w.heap.size + 1, 1, none⟩ (.string o.name)).setCell ⟨w.heap.size + 1, 2, none⟩ (.string o.team)).setCell ⟨w.heap.size + 1, 3, none⟩ (.slice a1 n1 d1)).setCell ⟨w.heap.size + 1, 4, none⟩ (.bool o.ending)).setCell ⟨w.heap.size + 1, 5, none⟩ (.slice a2 n2 d2)).setCell ⟨w.heap.size + 1, 6, none⟩ (.int .i64 o.version)).cell? ⟨w.heap.size + 1, 6, none⟩ = some (.int .i64 o.version) := r 6 (by omega)
  have hct : ∀ {lo hi : Nat} {v : Value} {ss : List ByteArray}, CT w2 lo hi v ss → w.heap.size + 1 < lo → CT ((((((((w2.setCell ⟨w.heap.size, 5, none⟩ (.slice a2 n2 d2)).setCell ⟨w.heap.size + 1, 0, none⟩ (.string o.kind)).setCell ⟨w.heap.size + 1, 1, none⟩ (.string o.name)).setCell ⟨w.heap.size + 1, 2, none⟩ (.string o.team)).setCell ⟨w.heap.size + 1, 3, none⟩ (.slice a1 n1 d1)).setCell ⟨w.heap.size + 1, 4, none⟩ (.bool o.ending)).setCell ⟨w.heap.size + 1, 5, none⟩ (.slice a2 n2 d2)).setCell ⟨w.heap.size + 1, 6, none⟩ (.int .i64 o.version)) lo hi v ss := fun h hlo => (((((((h.sc (Or.inl (by omega)) _ _).sc (Or.inl hlo) _ _).sc (Or.inl hlo) _ _).sc (Or.inl hlo) _ _).sc (Or.inl hlo) _ _).sc (Or.inl hlo) _ _).sc (Or.inl hlo) _ _).sc (Or.inl hlo) _ _
  have hsz : ((((((((w2.setCell ⟨w.heap.size, 5, none⟩ (.slice a2 n2 d2)).setCell ⟨w.heap.size + 1, 0, none⟩ (.string o.kind)).setCell ⟨w.heap.size + 1, 1, none⟩ (.string o.name)).setCell ⟨w.heap.size + 1, 2, none⟩ (.string o.team)).setCell ⟨w.heap.size + 1, 3, none⟩ (.slice a1 n1 d1)).setCell ⟨w.heap.size + 1, 4, none⟩ (.bool o.ending)).setCell ⟨w.heap.size + 1, 5, none⟩ (.slice a2 n2 d2)).setCell ⟨w.heap.size + 1, 6, none⟩ (.int .i64 o.version)).heap.size = w2.heap.size := by simp [World.setCell]
  refine bodyPost_ret (v := .agg #[.string o.kind, .string o.name, .string o.team, .slice a1 n1 d1, .bool o.ending, .slice a2 n2 d2, .int .i64 o.version]) (by simp only [results, Tryz.results26]; simp [go_sem, r0, r1, r2, r3, r4, r5, r6]) rfl ⟨⟨_, _, _, _, _, _, w1.heap.size, rfl, (hct HC2.out.1 (by omega)).mono (by omega) (Nat.le_refl _), ?_, by omega, ?_⟩, ?_⟩
  · rw [hsz]; exact hct HC2.out.2.1 (by omega)
  · rw [hsz]; exact HC2.out.2.2
  · exact puts_below (a := w) 0 (B := w.heap.size + 1) (by omega) [.string o.kind, .string o.name, .string o.team, .slice a1 n1 d1, .bool o.ending, .slice a2 n2 d2, .int .i64 o.version] (w2.setCell ⟨w.heap.size, 5, none⟩ (.slice a2 n2 d2)) 0 (HB2.out.setCell (p := ⟨w.heap.size, 5, none⟩) (Nat.le_refl _) _)

end Go.Proofs.YtbannihkgglpaaaGreat
