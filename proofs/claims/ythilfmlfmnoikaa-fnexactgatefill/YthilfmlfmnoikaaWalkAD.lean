/-
  Walks: copies of objects: the program.
-/
import Derived.Test.YthilfmlfmnoikaaWalkAC
import Derived.Test.YthilfmlfmnoikaaPuts
namespace Go.Proofs.Ythilfmlfmnoikaa
open Go.RowKit Go.Deep

structure Ob where
  kind : ByteArray
  name : ByteArray
  team : ByteArray
  values : List ByteArray
  ending : Bool
  holds : List ByteArray
  version : Int

/-- An object that is handed in: its lists lie in the blocks b1, b2. -/
structure ObArg (w : World) (b1 b2 : Nat) (o : Ob) : Prop where
  lt1 : b1 < w.heap.size
  lt2 : b2 < w.heap.size
  len1 : o.values.length ≤ 1048576
  len2 : o.holds.length ≤ 1048576
  at1 : ∀ i, i < o.values.length → w.cell? ⟨b1, i, none⟩ = some (.string (o.values.getD i ByteArray.empty))
  at2 : ∀ i, i < o.holds.length → w.cell? ⟨b2, i, none⟩ = some (.string (o.holds.getD i ByteArray.empty))

theorem ObArg.later {w w' : World} {b1 b2 : Nat} {o : Ob} (h : ObArg w b1 b2 o) (hb : Below w.heap.size w w') : ObArg w' b1 b2 o :=
  ⟨Nat.lt_of_lt_of_le h.lt1 hb.size, Nat.lt_of_lt_of_le h.lt2 hb.size, h.len1, h.len2, fun i hi => (hb.cell (p := ⟨b1, i, none⟩) h.lt1).trans (h.at1 i hi), fun i hi => (hb.cell (p := ⟨b2, i, none⟩) h.lt2).trans (h.at2 i hi)⟩

set_option maxHeartbeats 2000000 in
theorem copyObj (o : Ob) (b1 c1 b2 c2 : Nat) (w : World) (h : ObArg w b1 b2 o) :
    Calls Try.prog 23 #[.agg #[.string o.kind, .string o.name, .string o.team, .slice (some ⟨b1, 0, none⟩) o.values.length c1, .bool o.ending, .slice (some ⟨b2, 0, none⟩) o.holds.length c2, .int .i64 o.version]] w fun e w' => (∃ a1 n1 d1 a2 n2 d2 mid, e = .returned (.agg #[.string o.kind, .string o.name, .string o.team, .slice a1 n1 d1, .bool o.ending, .slice a2 n2 d2, .int .i64 o.version]) ∧ CT w' w.heap.size mid (.slice a1 n1 d1) o.values ∧ CT w' mid w'.heap.size (.slice a2 n2 d2) o.holds ∧ w.heap.size ≤ mid ∧ mid ≤ w'.heap.size) ∧ Below w.heap.size w w' := by
  have HA : Hid (ObArg w b1 b2 o) := h
  clear h
  have hO0 : OwnBlk ((w.alloc (.cells #[.string o.kind, .string o.name, .string o.team, .slice (some ⟨b1, 0, none⟩) o.values.length c1, .bool o.ending, .slice (some ⟨b2, 0, none⟩) o.holds.length c2, .int .i64 o.version] 28)).alloc (.cells #[.string ⟨#[]⟩, .string ⟨#[]⟩, .string ⟨#[]⟩, .slice none 0 0, .bool false, .slice none 0 0, .int .i64 0] 28)) w.heap.size 28 7 := (OwnBlk.alloc w _ 28 7 rfl).past _
  have hO1 : OwnBlk ((w.alloc (.cells #[.string o.kind, .string o.name, .string o.team, .slice (some ⟨b1, 0, none⟩) o.values.length c1, .bool o.ending, .slice (some ⟨b2, 0, none⟩) o.holds.length c2, .int .i64 o.version] 28)).alloc (.cells #[.string ⟨#[]⟩, .string ⟨#[]⟩, .string ⟨#[]⟩, .slice none 0 0, .bool false, .slice none 0 0, .int .i64 0] 28)) (w.heap.size + 1) 28 7 := by
    have := OwnBlk.alloc (w.alloc (.cells #[.string o.kind, .string o.name, .string o.team, .slice (some ⟨b1, 0, none⟩) o.values.length c1, .bool o.ending, .slice (some ⟨b2, 0, none⟩) o.holds.length c2, .int .i64 o.version] 28)) #[.string ⟨#[]⟩, .string ⟨#[]⟩, .string ⟨#[]⟩, .slice none 0 0, .bool false, .slice none 0 0, .int .i64 0] 28 7 rfl
    have e : (w.alloc (.cells #[.string o.kind, .string o.name, .string o.team, .slice (some ⟨b1, 0, none⟩) o.values.length c1, .bool o.ending, .slice (some ⟨b2, 0, none⟩) o.holds.length c2, .int .i64 o.version] 28)).heap.size = w.heap.size + 1 := by simp
    rw [e] at this
    exact this
  have HO : Hid (OwnBlk ((w.alloc (.cells #[.string o.kind, .string o.name, .string o.team, .slice (some ⟨b1, 0, none⟩) o.values.length c1, .bool o.ending, .slice (some ⟨b2, 0, none⟩) o.holds.length c2, .int .i64 o.version] 28)).alloc (.cells #[.string ⟨#[]⟩, .string ⟨#[]⟩, .string ⟨#[]⟩, .slice none 0 0, .bool false, .slice none 0 0, .int .i64 0] 28)) w.heap.size 28 7 ∧ OwnBlk ((w.alloc (.cells #[.string o.kind, .string o.name, .string o.team, .slice (some ⟨b1, 0, none⟩) o.values.length c1, .bool o.ending, .slice (some ⟨b2, 0, none⟩) o.holds.length c2, .int .i64 o.version] 28)).alloc (.cells #[.string ⟨#[]⟩, .string ⟨#[]⟩, .string ⟨#[]⟩, .slice none 0 0, .bool false, .slice none 0 0, .int .i64 0] 28)) (w.heap.size + 1) 28 7) := ⟨hO0, hO1⟩
  have hB0 : Below w.heap.size w ((w.alloc (.cells #[.string o.kind, .string o.name, .string o.team, .slice (some ⟨b1, 0, none⟩) o.values.length c1, .bool o.ending, .slice (some ⟨b2, 0, none⟩) o.holds.length c2, .int .i64 o.version] 28)).alloc (.cells #[.string ⟨#[]⟩, .string ⟨#[]⟩, .string ⟨#[]⟩, .slice none 0 0, .bool false, .slice none 0 0, .int .i64 0] 28)) := blw_alloc (blw_alloc (Below.refl _ _) _) _
  have HB0 : Hid (Below w.heap.size w ((w.alloc (.cells #[.string o.kind, .string o.name, .string o.team, .slice (some ⟨b1, 0, none⟩) o.values.length c1, .bool o.ending, .slice (some ⟨b2, 0, none⟩) o.holds.length c2, .int .i64 o.version] 28)).alloc (.cells #[.string ⟨#[]⟩, .string ⟨#[]⟩, .string ⟨#[]⟩, .slice none 0 0, .bool false, .slice none 0 0, .int .i64 0] 28))) := hB0
  clear hO0 hO1 hB0
  go_enter Try.func23, Try.ntmps23
  go_wp2_with fail
  refine (copyTexts b1 c1 o.values _ HA.out.len1 (HA.out.later HB0.out).at1).mono ?_
  rintro e w1 ⟨⟨a1, n1, d1, rfl, hct1⟩, hb1⟩
  have HB1 : Hid (Below w.heap.size w w1) := blw_trans HB0.out hb1
  have HOa1 : Hid (OwnBlk w1 w.heap.size 28 7) := HO.out.1.later hb1
  have HOb1 : Hid (OwnBlk w1 (w.heap.size + 1) 28 7) := HO.out.2.later hb1
  have HC1 : Hid (CT w1 w.heap.size w1.heap.size (.slice a1 n1 d1) o.values ∧ CT w1 (w.heap.size + 2) w1.heap.size (.slice a1 n1 d1) o.values) := by
    have e : ((w.alloc (.cells #[.string o.kind, .string o.name, .string o.team, .slice (some ⟨b1, 0, none⟩) o.values.length c1, .bool o.ending, .slice (some ⟨b2, 0, none⟩) o.holds.length c2, .int .i64 o.version] 28)).alloc (.cells #[.string ⟨#[]⟩, .string ⟨#[]⟩, .string ⟨#[]⟩, .slice none 0 0, .bool false, .slice none 0 0, .int .i64 0] 28)).heap.size = w.heap.size + 2 := by simp
    rw [e] at hct1
    exact ⟨hct1.mono (by omega) (Nat.le_refl _), hct1⟩
  have k1 : ∀ q, w1.cell? ⟨w.heap.size, q, none⟩ = ((w.alloc (.cells #[.string o.kind, .string o.name, .string o.team, .slice (some ⟨b1, 0, none⟩) o.values.length c1, .bool o.ending, .slice (some ⟨b2, 0, none⟩) o.holds.length c2, .int .i64 o.version] 28)).alloc (.cells #[.string ⟨#[]⟩, .string ⟨#[]⟩, .string ⟨#[]⟩, .slice none 0 0, .bool false, .slice none 0 0, .int .i64 0] 28)).cell? ⟨w.heap.size, q, none⟩ := fun q => hb1.cell (p := ⟨w.heap.size, q, none⟩) HO.out.1.lt
  have hz1 := HOa1.out.frozen
  have hs1 : w.heap.size + 1 < w1.heap.size := HOb1.out.lt
  clear hct1 hb1
  go_wp2_with fail
  have HB1' : Hid (Below w.heap.size w (w1.setCell ⟨w.heap.size, 3, none⟩ (.slice a1 n1 d1))) := HB1.out.setCell (p := ⟨w.heap.size, 3, none⟩) (Nat.le_refl _) _
  refine (copyTexts b2 c2 o.holds _ HA.out.len2 (HA.out.later HB1'.out).at2).mono ?_
  rintro e w2 ⟨⟨a2, n2, d2, rfl, hct2⟩, hb2⟩
  have HB2 : Hid (Below w.heap.size w w2) := blw_trans HB1'.out hb2
  have HOa : Hid (OwnBlk (w1.setCell ⟨w.heap.size, 3, none⟩ (.slice a1 n1 d1)) w.heap.size 28 7) := HOa1.out.setCell 3 _
  have HOb : Hid (OwnBlk (w1.setCell ⟨w.heap.size, 3, none⟩ (.slice a1 n1 d1)) (w.heap.size + 1) 28 7) := HOb1.out.sc_other (by omega) 3 _
  have HOa2 : Hid (OwnBlk w2 w.heap.size 28 7) := HOa.out.later hb2
  have HOb2 : Hid (OwnBlk w2 (w.heap.size + 1) 28 7) := HOb.out.later hb2
  have HC2 : Hid (CT w2 (w.heap.size + 2) w1.heap.size (.slice a1 n1 d1) o.values ∧ CT w2 w1.heap.size w2.heap.size (.slice a2 n2 d2) o.holds ∧ w1.heap.size ≤ w2.heap.size) := by
    have e : (w1.setCell ⟨w.heap.size, 3, none⟩ (.slice a1 n1 d1)).heap.size = w1.heap.size := by simp [World.setCell]
    have hsz := hb2.size
    rw [e] at hct2 hsz
    exact ⟨(HC1.out.2.sc (Or.inl (by omega)) 3 _).later hb2, hct2, hsz⟩
  have e0 : w2.cell? ⟨w.heap.size, 0, none⟩ = some (.string o.kind) := ((hb2.cell (p := ⟨w.heap.size, 0, none⟩) HOa.out.lt).trans (sc_ne _ _ _ _ _ _ (Or.inr (by omega)))).trans ((k1 0).trans (by simp))
  have e1 : w2.cell? ⟨w.heap.size, 1, none⟩ = some (.string o.name) := ((hb2.cell (p := ⟨w.heap.size, 1, none⟩) HOa.out.lt).trans (sc_ne _ _ _ _ _ _ (Or.inr (by omega)))).trans ((k1 1).trans (by simp))
  have e2 : w2.cell? ⟨w.heap.size, 2, none⟩ = some (.string o.team) := ((hb2.cell (p := ⟨w.heap.size, 2, none⟩) HOa.out.lt).trans (sc_ne _ _ _ _ _ _ (Or.inr (by omega)))).trans ((k1 2).trans (by simp))
  have e3 : w2.cell? ⟨w.heap.size, 3, none⟩ = some (.slice a1 n1 d1) := (hb2.cell (p := ⟨w.heap.size, 3, none⟩) HOa.out.lt).trans (sc_eq HOa1.out 3 (by omega) _)
  have e4 : w2.cell? ⟨w.heap.size, 4, none⟩ = some (.bool o.ending) := ((hb2.cell (p := ⟨w.heap.size, 4, none⟩) HOa.out.lt).trans (sc_ne _ _ _ _ _ _ (Or.inr (by omega)))).trans ((k1 4).trans (by simp))
  have e5 : w2.cell? ⟨w.heap.size, 5, none⟩ = some (.slice (some ⟨b2, 0, none⟩) o.holds.length c2) := ((hb2.cell (p := ⟨w.heap.size, 5, none⟩) HOa.out.lt).trans (sc_ne _ _ _ _ _ _ (Or.inr (by omega)))).trans ((k1 5).trans (by simp))
  have e6 : w2.cell? ⟨w.heap.size, 6, none⟩ = some (.int .i64 o.version) := ((hb2.cell (p := ⟨w.heap.size, 6, none⟩) HOa.out.lt).trans (sc_ne _ _ _ _ _ _ (Or.inr (by omega)))).trans ((k1 6).trans (by simp))
  have hz2 := HOa2.out.frozen
  have hz2b := HOb2.out.frozen
  obtain ⟨y0, hy0⟩ := HOb2.out.cell 0 (by omega)
  obtain ⟨y1, hy1⟩ := HOb2.out.cell 1 (by omega)
  obtain ⟨y2, hy2⟩ := HOb2.out.cell 2 (by omega)
  obtain ⟨y3, hy3⟩ := HOb2.out.cell 3 (by omega)
  obtain ⟨y4, hy4⟩ := HOb2.out.cell 4 (by omega)
  obtain ⟨y5, hy5⟩ := HOb2.out.cell 5 (by omega)
  obtain ⟨y6, hy6⟩ := HOb2.out.cell 6 (by omega)
  clear hct2 hb2 k1 hz1
  go_wp2
  have HP : Hid (OwnBlk (w2.setCell ⟨w.heap.size, 5, none⟩ (.slice a2 n2 d2)) (w.heap.size + 1) 28 7) := HOb2.out.sc_other (by omega) 5 _
  have r : ∀ j, j < 7 → ((((((((w2.setCell ⟨w.heap.size, 5, none⟩ (.slice a2 n2 d2)).setCell ⟨w.heap.size + 1, 0, none⟩ (.string o.kind)).setCell ⟨w.heap.size + 1, 1, none⟩ (.string o.name)).setCell ⟨w.heap.size + 1, 2, none⟩ (.string o.team)).setCell ⟨w.heap.size + 1, 3, none⟩ (.slice a1 n1 d1)).setCell ⟨w.heap.size + 1, 4, none⟩ (.bool o.ending)).setCell ⟨w.heap.size + 1, 5, none⟩ (.slice a2 n2 d2)).setCell ⟨w.heap.size + 1, 6, none⟩ (.int .i64 o.version)).cell? ⟨w.heap.size + 1, 0 + (0 + j), none⟩ = ([.string o.kind, .string o.name, .string o.team, .slice a1 n1 d1, .bool o.ending, .slice a2 n2 d2, .int .i64 o.version] : List Value)[j]? := fun j hj => puts_at 0 [.string o.kind, .string o.name, .string o.team, .slice a1 n1 d1, .bool o.ending, .slice a2 n2 d2, .int .i64 o.version] (w2.setCell ⟨w.heap.size, 5, none⟩ (.slice a2 n2 d2)) 0 HP.out (by simp) j (by simpa using hj)
  have r0 : ((((((((w2.setCell ⟨w.heap.size, 5, none⟩ (.slice a2 n2 d2)).setCell ⟨w.heap.size + 1, 0, none⟩ (.string o.kind)).setCell ⟨w.heap.size + 1, 1, none⟩ (.string o.name)).setCell ⟨w.heap.size + 1, 2, none⟩ (.string o.team)).setCell ⟨w.heap.size + 1, 3, none⟩ (.slice a1 n1 d1)).setCell ⟨w.heap.size + 1, 4, none⟩ (.bool o.ending)).setCell ⟨w.heap.size + 1, 5, none⟩ (.slice a2 n2 d2)).setCell ⟨w.heap.size + 1, 6, none⟩ (.int .i64 o.version)).cell? ⟨w.heap.size + 1, 0, none⟩ = some (.string o.kind) := r 0 (by omega)
  have r1 : ((((((((w2.setCell ⟨w.heap.size, 5, none⟩ (.slice a2 n2 d2)).setCell ⟨w.heap.size + 1, 0, none⟩ (.string o.kind)).setCell ⟨w.heap.size + 1, 1, none⟩ (.string o.name)).setCell ⟨w.heap.size + 1, 2, none⟩ (.string o.team)).setCell ⟨w.heap.size + 1, 3, none⟩ (.slice a1 n1 d1)).setCell ⟨w.heap.size + 1, 4, none⟩ (.bool o.ending)).setCell ⟨w.heap.size + 1, 5, none⟩ (.slice a2 n2 d2)).setCell ⟨w.heap.size + 1, 6, none⟩ (.int .i64 o.version)).cell? ⟨w.heap.size + 1, 1, none⟩ = some (.string o.name) := r 1 (by omega)
  have r2 : ((((((((w2.setCell ⟨w.heap.size, 5, none⟩ (.slice a2 n2 d2)).setCell ⟨w.heap.size + 1, 0, none⟩ (.string o.kind)).setCell ⟨w.heap.size + 1, 1, none⟩ (.string o.name)).setCell ⟨w.heap.size + 1, 2, none⟩ (.string o.team)).setCell ⟨w.heap.size + 1, 3, none⟩ (.slice a1 n1 d1)).setCell ⟨w.heap.size + 1, 4, none⟩ (.bool o.ending)).setCell ⟨w.heap.size + 1, 5, none⟩ (.slice a2 n2 d2)).setCell ⟨w.heap.size + 1, 6, none⟩ (.int .i64 o.version)).cell? ⟨w.heap.size + 1, 2, none⟩ = some (.string o.team) := r 2 (by omega)
  have r3 : ((((((((w2.setCell ⟨w.heap.size, 5, none⟩ (.slice a2 n2 d2)).setCell ⟨w.heap.size + 1, 0, none⟩ (.string o.kind)).setCell ⟨w.heap.size + 1, 1, none⟩ (.string o.name)).setCell ⟨w.heap.size + 1, 2, none⟩ (.string o.team)).setCell ⟨w.heap.size + 1, 3, none⟩ (.slice a1 n1 d1)).setCell ⟨w.heap.size + 1, 4, none⟩ (.bool o.ending)).setCell ⟨w.heap.size + 1, 5, none⟩ (.slice a2 n2 d2)).setCell ⟨w.heap.size + 1, 6, none⟩ (.int .i64 o.version)).cell? ⟨w.heap.size + 1, 3, none⟩ = some (.slice a1 n1 d1) := r 3 (by omega)
  have r4 : ((((((((w2.setCell ⟨w.heap.size, 5, none⟩ (.slice a2 n2 d2)).setCell ⟨w.heap.size + 1, 0, none⟩ (.string o.kind)).setCell ⟨w.heap.size + 1, 1, none⟩ (.string o.name)).setCell ⟨w.heap.size + 1, 2, none⟩ (.string o.team)).setCell ⟨w.heap.size + 1, 3, none⟩ (.slice a1 n1 d1)).setCell ⟨w.heap.size + 1, 4, none⟩ (.bool o.ending)).setCell ⟨w.heap.size + 1, 5, none⟩ (.slice a2 n2 d2)).setCell ⟨w.heap.size + 1, 6, none⟩ (.int .i64 o.version)).cell? ⟨w.heap.size + 1, 4, none⟩ = some (.bool o.ending) := r 4 (by omega)
  have r5 : ((((((((w2.setCell ⟨w.heap.size, 5, none⟩ (.slice a2 n2 d2)).setCell ⟨w.heap.size + 1, 0, none⟩ (.string o.kind)).setCell ⟨w.heap.size + 1, 1, none⟩ (.string o.name)).setCell ⟨w.heap.size + 1, 2, none⟩ (.string o.team)).setCell ⟨w.heap.size + 1, 3, none⟩ (.slice a1 n1 d1)).setCell ⟨w.heap.size + 1, 4, none⟩ (.bool o.ending)).setCell ⟨w.heap.size + 1, 5, none⟩ (.slice a2 n2 d2)).setCell ⟨w.heap.size + 1, 6, none⟩ (.int .i64 o.version)).cell? ⟨w.heap.size + 1, 5, none⟩ = some (.slice a2 n2 d2) := r 5 (by omega)
  have r6 : ((((((((w2.setCell ⟨w.heap.size, 5, none⟩ (.slice a2 n2 d2)).setCell ⟨w.heap.size + 1, 0, none⟩ (.string o.kind)).setCell ⟨w.heap.size + 1, 1, none⟩ (.string o.name)).setCell ⟨w.heap.size + 1, 2, none⟩ (.string o.team)).setCell ⟨w.heap.size + 1, 3, none⟩ (.slice a1 n1 d1)).setCell ⟨w.heap.size + 1, 4, none⟩ (.bool o.ending)).setCell ⟨w.heap.size + 1, 5, none⟩ (.slice a2 n2 d2)).setCell ⟨w.heap.size + 1, 6, none⟩ (.int .i64 o.version)).cell? ⟨w.heap.size + 1, 6, none⟩ = some (.int .i64 o.version) := r 6 (by omega)
  have hct : ∀ {lo hi : Nat} {v : Value} {ss : List ByteArray}, CT w2 lo hi v ss → w.heap.size + 1 < lo → CT ((((((((w2.setCell ⟨w.heap.size, 5, none⟩ (.slice a2 n2 d2)).setCell ⟨w.heap.size + 1, 0, none⟩ (.string o.kind)).setCell ⟨w.heap.size + 1, 1, none⟩ (.string o.name)).setCell ⟨w.heap.size + 1, 2, none⟩ (.string o.team)).setCell ⟨w.heap.size + 1, 3, none⟩ (.slice a1 n1 d1)).setCell ⟨w.heap.size + 1, 4, none⟩ (.bool o.ending)).setCell ⟨w.heap.size + 1, 5, none⟩ (.slice a2 n2 d2)).setCell ⟨w.heap.size + 1, 6, none⟩ (.int .i64 o.version)) lo hi v ss := fun h hlo => (((((((h.sc (Or.inl (by omega)) _ _).sc (Or.inl hlo) _ _).sc (Or.inl hlo) _ _).sc (Or.inl hlo) _ _).sc (Or.inl hlo) _ _).sc (Or.inl hlo) _ _).sc (Or.inl hlo) _ _).sc (Or.inl hlo) _ _
  have hsz : ((((((((w2.setCell ⟨w.heap.size, 5, none⟩ (.slice a2 n2 d2)).setCell ⟨w.heap.size + 1, 0, none⟩ (.string o.kind)).setCell ⟨w.heap.size + 1, 1, none⟩ (.string o.name)).setCell ⟨w.heap.size + 1, 2, none⟩ (.string o.team)).setCell ⟨w.heap.size + 1, 3, none⟩ (.slice a1 n1 d1)).setCell ⟨w.heap.size + 1, 4, none⟩ (.bool o.ending)).setCell ⟨w.heap.size + 1, 5, none⟩ (.slice a2 n2 d2)).setCell ⟨w.heap.size + 1, 6, none⟩ (.int .i64 o.version)).heap.size = w2.heap.size := by simp [World.setCell]
  refine bodyPost_ret (v := .agg #[.string o.kind, .string o.name, .string o.team, .slice a1 n1 d1, .bool o.ending, .slice a2 n2 d2, .int .i64 o.version]) (by simp only [results, Try.results23]; simp [go_sem, r0, r1, r2, r3, r4, r5, r6]) rfl ⟨⟨_, _, _, _, _, _, w1.heap.size, rfl, (hct HC2.out.1 (by omega)).mono (by omega) (Nat.le_refl _), ?_, by omega, ?_⟩, ?_⟩
  · rw [hsz]; exact hct HC2.out.2.1 (by omega)
  · rw [hsz]; exact HC2.out.2.2
  · exact puts_below (a := w) 0 (B := w.heap.size + 1) (by omega) [.string o.kind, .string o.name, .string o.team, .slice a1 n1 d1, .bool o.ending, .slice a2 n2 d2, .int .i64 o.version] (w2.setCell ⟨w.heap.size, 5, none⟩ (.slice a2 n2 d2)) 0 (HB2.out.setCell (p := ⟨w.heap.size, 5, none⟩) (Nat.le_refl _) _)
end Go.Proofs.Ythilfmlfmnoikaa
