/-
  Objects: sizes, copies, equality; the fields of an object's kind.
-/
import Derived.Test.YtliaibdbcaglnaaWalkO
import Derived.Test.YtliaibdbcaglnaaWalkQ
import Derived.Test.YtliaibdbcaglnaaWalkS
import Derived.BigQuiet
import Derived.Deep.RegionWith
namespace Go.Proofs.Ytliaibdbcaglnaa
open Go.RowKit Go.Deep

structure Ob where
  kind : ByteArray
  name : ByteArray
  team : ByteArray
  values : List ByteArray
  ending : Bool
  holds : List ByteArray
  version : Int

/-- An object that is handed in: its lists lie in the blocks b1, b2. -/
structure ObArg (w : World) (b1 b2 : Nat) (o : Ob) : Prop where
  lt1 : b1 < w.heap.size
  lt2 : b2 < w.heap.size
  len1 : o.values.length ≤ 1048576
  len2 : o.holds.length ≤ 1048576
  at1 : ∀ i, i < o.values.length → w.cell? ⟨b1, i, none⟩ = some (.string (o.values.getD i ByteArray.empty))
  at2 : ∀ i, i < o.holds.length → w.cell? ⟨b2, i, none⟩ = some (.string (o.holds.getD i ByteArray.empty))

theorem ObArg.later {w w' : World} {b1 b2 : Nat} {o : Ob} (h : ObArg w b1 b2 o) (hb : Below w.heap.size w w') : ObArg w' b1 b2 o :=
  ⟨Nat.lt_of_lt_of_le h.lt1 hb.size, Nat.lt_of_lt_of_le h.lt2 hb.size, h.len1, h.len2, fun i hi => (hb.cell (p := ⟨b1, i, none⟩) h.lt1).trans (h.at1 i hi), fun i hi => (hb.cell (p := ⟨b2, i, none⟩) h.lt2).trans (h.at2 i hi)⟩

theorem sc_size' (w : World) (a : Addr) (v : Value) : (w.setCell a v).heap.size = w.heap.size := by simp [World.setCell]

theorem OwnBlk.laterB {w w' : World} {B b : Nat} {t : TypeId} {m : Nat} (h : OwnBlk w b t m) (hb : Below B w w') (hlt : b < B) : OwnBlk w' b t m := by
  obtain ⟨cs, h1, h2⟩ := h
  exact ⟨cs, by rw [hb.block b hlt]; exact h1, h2⟩

theorem OwnBlk.alloc_at (W : World) (cs : Array Value) (t : TypeId) (m n : Nat) (h : cs.size = m) (hn : n = W.heap.size) : OwnBlk (W.alloc (.cells cs t)) n t m := by
  subst hn; exact OwnBlk.alloc W cs t m h

def Ob.sized (o : Ob) : Prop := o.kind.size ≤ maxLen ∧ o.name.size ≤ maxLen ∧ o.team.size ≤ maxLen

set_option maxHeartbeats 1000000 in
theorem szObj (o : Ob) (v1 v2 : Value) (left : Int) (w : World) (h0 : 0 ≤ left) (h1 : left ≤ 1048576) (t1 : Texts w v1 o.values) (t2 : Texts w v2 o.holds) (hs : o.sized) :
    Calls Try.prog 6 #[.agg #[.string o.kind, .string o.name, .string o.team, v1, .bool o.ending, v2, .int .i64 o.version], .int .i64 left] w fun e w' => (∃ r : Int, e = .returned (.int .i64 r) ∧ szP (o.values.length ≤ 1048576 ∧ o.holds.length ≤ 1048576) left r) ∧ Below w.heap.size w w' := by
  obtain ⟨s1, s2, s3⟩ := hs
  unfold maxLen at s1 s2 s3
  have HT : Hid (∀ o', Texts (w.alloc o') v1 o.values ∧ Texts (w.alloc o') v2 o.holds) := fun o' => ⟨t1.later (blw_alloc (Below.refl _ _) o'), t2.later (blw_alloc (Below.refl _ _) o')⟩
  clear t1 t2
  by_cases c1 : left < (o.kind.size : Int)
  · go_enter Try.func6, Try.ntmps6
    go_wp2
    go_ret
    exact ⟨⟨_, rfl, by unfold szP; exact ⟨by omega, by omega, by omega⟩⟩, blw_alloc (Below.refl _ _) _⟩
  by_cases c2 : left - o.kind.size < (o.name.size : Int)
  · go_enter Try.func6, Try.ntmps6
    go_wp2
    go_ret
    exact ⟨⟨_, rfl, by unfold szP; exact ⟨by omega, by omega, by omega⟩⟩, blw_alloc (Below.refl _ _) _⟩
  by_cases c3 : left - o.kind.size - o.name.size < (o.team.size : Int)
  · go_enter Try.func6, Try.ntmps6
    go_wp2
    go_ret
    exact ⟨⟨_, rfl, by unfold szP; exact ⟨by omega, by omega, by omega⟩⟩, blw_alloc (Below.refl _ _) _⟩
  go_enter Try.func6, Try.ntmps6
  go_wp2_with fail
  refine (szTexts_any v1 o.values _ _ (by omega) (by omega) (HT.out _).1).mono ?_
  rintro e w1 ⟨⟨r, rfl, hr⟩, rfl⟩
  have q1 : -1 ≤ r := hr.1
  have q2 : r ≤ left - o.kind.size - o.name.size - o.team.size := hr.2.1
  have HR : Hid (0 ≤ r → (o.values.length : Int) ≤ 1048576) := fun h => by have := hr.2.2 h; omega
  clear hr
  by_cases c4 : r < 0
  · go_wp2
    go_ret
    exact ⟨⟨_, rfl, by unfold szP; exact ⟨by omega, by omega, by omega⟩⟩, blw_alloc (Below.refl _ _) _⟩
  go_wp2_with fail
  refine (szTexts_any v2 o.holds _ _ (by omega) (by omega) (HT.out _).2).mono ?_
  rintro e w2 ⟨⟨r2, rfl, hr2⟩, rfl⟩
  have q3 : -1 ≤ r2 := hr2.1
  have q4 : r2 ≤ r := hr2.2.1
  have HR2 : Hid (0 ≤ r2 → (o.holds.length : Int) ≤ 1048576) := fun h => by have := hr2.2.2 h; omega
  clear hr2
  by_cases c5 : r2 < 0
  all_goals
    go_wp2
    go_ret
    refine ⟨⟨_, rfl, ?_⟩, blw_alloc (Below.refl _ _) _⟩
    unfold szP
    exact ⟨by omega, by omega, fun h => ⟨by have := HR.out (by omega); omega, by have := HR2.out (by omega); omega⟩⟩

set_option maxHeartbeats 2000000 in
theorem toObj (o : Ob) (v1 v2 : Value) (w : World) (hl1 : o.values.length ≤ 1048576) (hl2 : o.holds.length ≤ 1048576) (t1 : Texts w v1 o.values) (t2 : Texts w v2 o.holds) :
    Calls Try.prog 9 #[.agg #[.string o.kind, .string o.name, .string o.team, v1, .bool o.ending, v2, .int .i64 o.version]] w fun e w' => (∃ b1 b2, e = .returned (.agg #[.string o.kind, .string o.name, .string o.team, .slice (some ⟨b1, 0, none⟩) o.values.length o.values.length, .bool o.ending, .slice (some ⟨b2, 0, none⟩) o.holds.length o.holds.length, .int .i64 o.version]) ∧ ObArg w' b1 b2 o ∧ OwnBlk w' b1 9 o.values.length ∧ OwnBlk w' b2 9 o.holds.length ∧ w.heap.size ≤ b1 ∧ b1 < b2) ∧ Below w.heap.size w w' := by
  have HT : Hid (∀ W, Below w.heap.size w W → Texts W v1 o.values ∧ Texts W v2 o.holds) := fun W h => ⟨t1.later h, t2.later h⟩
  clear t1 t2
  go_enter Try.func9, Try.ntmps9
  go_wp2_with fail
  refine (toTexts_any v1 o.values _ hl1 (HT.out _ (by repeat (first | exact Below.refl _ _ | refine blw_alloc ?_ _))).1).mono ?_
  rintro e w1 ⟨cs1, rfl, rfl, hsz1, hcs1⟩
  have HC1 : Hid (cs1.size = o.values.length ∧ ∀ j, j < o.values.length → cs1[j]? = some (.string (o.values.getD j ByteArray.empty))) := ⟨hsz1, hcs1⟩
  clear hsz1 hcs1
  go_wp2_with fail
  refine (toTexts_any v2 o.holds _ hl2 (HT.out _ (by repeat (first | exact Below.refl _ _ | refine blw_alloc ?_ _))).2).mono ?_
  rintro e w2 ⟨cs2, rfl, rfl, hsz2, hcs2⟩
  have HC2 : Hid (cs2.size = o.holds.length ∧ ∀ j, j < o.holds.length → cs2[j]? = some (.string (o.holds.getD j ByteArray.empty))) := ⟨hsz2, hcs2⟩
  clear hsz2 hcs2 HT
  go_wp2
  refine bodyPost_ret (v := .agg #[.string o.kind, .string o.name, .string o.team, .slice (some ⟨w.heap.size + 1 + 1 + 1, 0, none⟩) o.values.length o.values.length, .bool o.ending, .slice (some ⟨w.heap.size + 1 + 1 + 1 + 1, 0, none⟩) o.holds.length o.holds.length, .int .i64 o.version]) (by simp [results, Try.results9, go_sem]) rfl ⟨⟨w.heap.size + 1 + 1 + 1, w.heap.size + 1 + 1 + 1 + 1, rfl, ⟨by simp, by simp, hl1, hl2, fun i hi => ?_, fun i hi => ?_⟩, ?_, ?_, by omega, by omega⟩, ?_⟩
  · rw [World.cell?_alloc_past _ _ _ (by simp), World.cell?_alloc_at cs1 9 _ _ (by simp)]
    exact HC1.out.2 i hi
  · rw [World.cell?_alloc_at cs2 9 _ _ (by simp)]
    exact HC2.out.2 i hi
  · exact (OwnBlk.alloc_at _ cs1 9 _ _ HC1.out.1 (by simp)).past _
  · exact OwnBlk.alloc_at _ cs2 9 _ _ HC2.out.1 (by simp)
  · repeat (first | exact Below.refl _ _ | refine blw_alloc ?_ _)

set_option maxHeartbeats 400000 in
theorem eqTexts_nil (a a' : Option Addr) (c c' : Nat) (w : World) :
    Calls Try.prog 33 #[.slice a 0 c, .slice a' 0 c'] w fun e w' => e = .returned (.bool true) ∧ w = w' := by
  go_enter Try.func33, Try.ntmps33
  go_wp2
  refine wp_loop_rounds 1 ?_
  rw [rounds_succ]
  go_wp2
  go_ret
  exact ⟨rfl, rfl⟩

theorem eqTexts_any (v v' : Value) (ss : List ByteArray) (w : World) (h : Texts w v ss) (h' : Texts w v' ss) :
    Calls Try.prog 33 #[v, v'] w fun e w' => e = .returned (.bool true) ∧ Below w.heap.size w w' := by
  have nil : ∀ {u : Value}, Texts w u [] → ∃ a c, u = .slice a 0 c := by
    intro u hu
    rcases hu with ⟨a, c, rfl, _⟩ | ⟨b, off, cap, rfl, _⟩
    · exact ⟨a, c, rfl⟩
    · exact ⟨_, _, rfl⟩
  by_cases h0 : ss = []
  · subst h0
    obtain ⟨a, c, rfl⟩ := nil h
    obtain ⟨a', c', rfl⟩ := nil h'
    refine (eqTexts_nil a a' c c' w).mono ?_
    rintro e w' ⟨rfl, rfl⟩
    exact ⟨rfl, Below.refl _ _⟩
  · rcases h with ⟨_, _, _, e⟩ | ⟨b, off, cap, rfl, _, _, h3, h4⟩
    · exact absurd e h0
    rcases h' with ⟨_, _, _, e⟩ | ⟨b', off', cap', rfl, _, _, _, h4'⟩
    · exact absurd e h0
    exact eqTexts_row b off cap b' off' cap' ss w h3 h4 h4'

set_option maxHeartbeats 2000000 in
theorem eqObj (o : Ob) (v1 v2 u1 u2 : Value) (w : World) (t1 : Texts w v1 o.values) (t2 : Texts w v2 o.holds) (r1 : Texts w u1 o.values) (r2 : Texts w u2 o.holds) :
    Calls Try.prog 12 #[.agg #[.string o.kind, .string o.name, .string o.team, v1, .bool o.ending, v2, .int .i64 o.version], .agg #[.string o.kind, .string o.name, .string o.team, u1, .bool o.ending, u2, .int .i64 o.version]] w fun e w' => e = .returned (.bool true) ∧ Below w.heap.size w w' := by
  have HT : Hid (∀ W, Below w.heap.size w W → (Texts W v1 o.values ∧ Texts W u1 o.values) ∧ Texts W v2 o.holds ∧ Texts W u2 o.holds) := fun W h => ⟨⟨t1.later h, r1.later h⟩, t2.later h, r2.later h⟩
  clear t1 t2 r1 r2
  have HB : Hid (Below w.heap.size w ((w.alloc (.cells #[.string o.kind, .string o.name, .string o.team, v1, .bool o.ending, v2, .int .i64 o.version] 39)).alloc (.cells #[.string o.kind, .string o.name, .string o.team, u1, .bool o.ending, u2, .int .i64 o.version] 39))) := blw_alloc (blw_alloc (Below.refl _ _) _) _
  go_enter Try.func12, Try.ntmps12
  go_wp2_with fail
  refine (eqTexts_any v1 u1 o.values _ (HT.out _ HB.out).1.1 (HT.out _ HB.out).1.2).mono ?_
  rintro e w1 ⟨rfl, hb1⟩
  have HB1 : Hid (Below w.heap.size w w1) := blw_trans HB.out hb1
  have k1 : ∀ q, w1.cell? ⟨w.heap.size, q, none⟩ = ((w.alloc (.cells #[.string o.kind, .string o.name, .string o.team, v1, .bool o.ending, v2, .int .i64 o.version] 39)).alloc (.cells #[.string o.kind, .string o.name, .string o.team, u1, .bool o.ending, u2, .int .i64 o.version] 39)).cell? ⟨w.heap.size, q, none⟩ := fun q => hb1.cell (p := ⟨w.heap.size, q, none⟩) (by simp; omega)
  have k1' : ∀ q, w1.cell? ⟨w.heap.size + 1, q, none⟩ = ((w.alloc (.cells #[.string o.kind, .string o.name, .string o.team, v1, .bool o.ending, v2, .int .i64 o.version] 39)).alloc (.cells #[.string o.kind, .string o.name, .string o.team, u1, .bool o.ending, u2, .int .i64 o.version] 39)).cell? ⟨w.heap.size + 1, q, none⟩ := fun q => hb1.cell (p := ⟨w.heap.size + 1, q, none⟩) (by simp)
  have z1 : w.heap.size + 1 < w1.heap.size := by have := hb1.size; simp at this; omega
  clear hb1
  go_wp2_with fail
  refine (eqTexts_any v2 u2 o.holds _ (HT.out _ HB1.out).2.1 (HT.out _ HB1.out).2.2).mono ?_
  rintro e w2 ⟨rfl, hb2⟩
  have HB2 : Hid (Below w.heap.size w w2) := blw_trans HB1.out hb2
  have k2 : ∀ q, w2.cell? ⟨w.heap.size, q, none⟩ = ((w.alloc (.cells #[.string o.kind, .string o.name, .string o.team, v1, .bool o.ending, v2, .int .i64 o.version] 39)).alloc (.cells #[.string o.kind, .string o.name, .string o.team, u1, .bool o.ending, u2, .int .i64 o.version] 39)).cell? ⟨w.heap.size, q, none⟩ := fun q => (hb2.cell (p := ⟨w.heap.size, q, none⟩) (by show w.heap.size < w1.heap.size; omega)).trans (k1 q)
  have k2' : ∀ q, w2.cell? ⟨w.heap.size + 1, q, none⟩ = ((w.alloc (.cells #[.string o.kind, .string o.name, .string o.team, v1, .bool o.ending, v2, .int .i64 o.version] 39)).alloc (.cells #[.string o.kind, .string o.name, .string o.team, u1, .bool o.ending, u2, .int .i64 o.version] 39)).cell? ⟨w.heap.size + 1, q, none⟩ := fun q => (hb2.cell (p := ⟨w.heap.size + 1, q, none⟩) z1).trans (k1' q)
  clear hb2 k1 k1'
  go_wp2
  go_ret
  exact ⟨rfl, HB2.out⟩

set_option maxHeartbeats 2000000 in
theorem shapeOf_in (w0 : World) (B : Nat) (ss : List Shp) (k : ByteArray) (w : World) (h : ShpsIn w0 B ss) (hb0 : Below w0.heap.size w0 w) :
    Calls Try.prog 28 #[.slice (some ⟨B, 0, none⟩) ss.length ss.length, .string k] w fun e w' => ∃ kd a n c, e = .returned (.tuple #[.agg #[.string kd, .slice a n c], .bool (hasKind ss k)]) ∧ ShapeOf ss k w0 kd (.slice a n c) ∧ Below w.heap.size w w' := by
  have hl := h.len
  have HH : Hid (ShpsIn w0 B ss) := h
  clear h
  go_enter Try.func28, Try.ntmps28
  go_wp2
  go_loopw [10] (fun i wr => ∃ q : Nat, q ≤ ss.length ∧ i = .int .i64 q ∧ q ≤ kindAt ss k ∧ Below w.heap.size w wr ∧ OwnBlk wr w.heap.size 76 2) (fun i _ => ss.length - (intOf i).toNat)
  case atStart => exact ⟨0, Nat.zero_le _, rfl, Nat.zero_le _, blw_alloc (Below.refl _ _) _, OwnBlk.alloc w _ 76 _ rfl⟩
  case round =>
    obtain ⟨q, hq, rfl, hno, hW, hO⟩ := hrel
    have HN : Hid (q ≤ kindAt ss k) := hno
    have HO : Hid (OwnBlk wr w.heap.size 76 2) := hO
    have hfz := hO.frozen
    obtain ⟨x0, o0⟩ := hO.cell 0 (by omega)
    obtain ⟨x1, o1⟩ := hO.cell 1 (by omega)
    have hz := hO.lt
    clear hno hO
    by_cases hlt : q < ss.length
    · obtain ⟨b, _, hbl, _, _, d0, d1, hf⟩ := HH.out.at_ q hlt
      have c0 := ((blw_trans hb0 hW).cell (p := ⟨B, q * 2, none⟩) HH.out.lt).trans d0
      have c1 := ((blw_trans hb0 hW).cell (p := ⟨B, q * 2 + 1, none⟩) HH.out.lt).trans d1
      clear d0 d1
      obtain ⟨s, hs⟩ : ∃ s, s = ss.getD q Shp.none := ⟨_, rfl⟩
      rw [← hs] at c0 c1 hf
      cases ht : (s.kind.toList == k.toList)
      · have HM : Hid (q + 1 ≤ kindAt ss k) := kindAt_miss ss k q hlt HN.out (by rw [← hs]; exact ht)
        clear hs hf hbl
        go_wp2
        go_roundw
        case rel => exact ⟨q + 1, by omega, by go_num, HM.out, blw_alloc hW _, HO.out.later (blw_alloc (Below.refl _ _) _)⟩
        case measure => simp [intOf]; omega
      · have HM : Hid (kindAt ss k = q) := kindAt_hit ss k q hlt HN.out (by rw [← hs]; exact ht)
        have HS : Hid (s = ss.getD q Shp.none ∧ b < w0.heap.size ∧ ∀ i, i < s.fields.length → OwnFld w0 b (i * 11) (s.fields.getD i Fld.none)) := ⟨hs, hbl, hf⟩
        have HK : Hid (hasKind ss k = true) := by show hasKind ss k = true; simp [hasKind, HM.out, hlt]
        clear hs hf hbl
        go_wp2
        have e0 : ∀ (x : Value) (o : Obj), (((wr.setCell ⟨w.heap.size, 0, none⟩ (.string s.kind)).setCell ⟨w.heap.size, 1, none⟩ x).alloc o).cell? ⟨w.heap.size, 0, none⟩ = some (.string s.kind) := by
          intro x o
          have h1 := World.cell?_alloc_past (w := (wr.setCell ⟨w.heap.size, 0, none⟩ (.string s.kind)).setCell ⟨w.heap.size, 1, none⟩ x) o w.heap.size 0 (by rw [sc_size, sc_size]; exact hz)
          rw [h1, sc_ne _ _ _ _ _ _ (by omega)]
          exact sc_eq HO.out 0 (by omega) _
        have e1 : ∀ (x : Value) (o : Obj), (((wr.setCell ⟨w.heap.size, 0, none⟩ (.string s.kind)).setCell ⟨w.heap.size, 1, none⟩ x).alloc o).cell? ⟨w.heap.size, 1, none⟩ = some x := by
          intro x o
          have h1 := World.cell?_alloc_past (w := (wr.setCell ⟨w.heap.size, 0, none⟩ (.string s.kind)).setCell ⟨w.heap.size, 1, none⟩ x) o w.heap.size 1 (by rw [sc_size, sc_size]; exact hz)
          rw [h1]
          exact sc_eq (HO.out.setCell 0 _) 1 (by omega) _
        refine bodyPost_ret (v := .tuple #[.agg #[.string s.kind, .slice (some ⟨b, 0, none⟩) s.fields.length s.fields.length], .bool true]) (by simp [results, Try.results28, go_sem, e0, e1]) rfl ⟨_, _, _, _, by rw [HK.out], ?_, ?_⟩
        · intro _
          rw [HM.out, ← HS.out.1]
          exact ⟨rfl, b, rfl, HS.out.2.1, HS.out.2.2⟩
        · exact blw_alloc ((hW.setCell (p := ⟨w.heap.size, 0, none⟩) (Nat.le_refl _) _).setCell (p := ⟨w.heap.size, 1, none⟩) (Nat.le_refl _) _) _
    · have HK : Hid (hasKind ss k = false) := by have := HN.out; show hasKind ss k = false; simp [hasKind]; omega
      go_wp2
      have e0 : ∀ (x y : Value), ((wr.setCell ⟨w.heap.size, 0, none⟩ y).setCell ⟨w.heap.size, 1, none⟩ x).cell? ⟨w.heap.size, 0, none⟩ = some y := by
        intro x y
        rw [sc_ne _ _ _ _ _ _ (by omega)]
        exact sc_eq HO.out 0 (by omega) _
      have e1 : ∀ (x y : Value), ((wr.setCell ⟨w.heap.size, 0, none⟩ y).setCell ⟨w.heap.size, 1, none⟩ x).cell? ⟨w.heap.size, 1, none⟩ = some x := by
        intro x y
        exact sc_eq (HO.out.setCell 0 _) 1 (by omega) _
      refine bodyPost_ret (v := .tuple #[.agg #[.string ⟨#[]⟩, .slice none 0 0], .bool false]) (by simp [results, Try.results28, go_sem, e0, e1]) rfl ⟨_, _, _, _, by rw [HK.out], ?_, ?_⟩
      · intro h; rw [HK.out] at h; cases h
      · exact (hW.setCell (p := ⟨w.heap.size, 0, none⟩) (Nat.le_refl _) _).setCell (p := ⟨w.heap.size, 1, none⟩) (Nat.le_refl _) _

def hasFields (ss : List Shp) (o : Ob) : Bool := hasKind ss o.kind && decide (o.values.length = (ss.getD (kindAt ss o.kind) Shp.none).fields.length)

set_option maxHeartbeats 1000000 in
theorem l2Fields (w0 : World) (B : Nat) (ss : List Shp) (o : Ob) (b1 c1 b2 c2 : Nat) (w : World) (h : ShpsIn w0 B ss) (hb0 : Below w0.heap.size w0 w) :
    Calls Try.prog 22 #[.slice (some ⟨B, 0, none⟩) ss.length ss.length, .agg #[.string o.kind, .string o.name, .string o.team, .slice (some ⟨b1, 0, none⟩) o.values.length c1, .bool o.ending, .slice (some ⟨b2, 0, none⟩) o.holds.length c2, .int .i64 o.version]] w fun e w' => ∃ a n c, e = .returned (.tuple #[.slice a n c, .bool (hasFields ss o)]) ∧ (hasFields ss o = true → ∃ b, Value.slice a n c = .slice (some ⟨b, 0, none⟩) (ss.getD (kindAt ss o.kind) Shp.none).fields.length (ss.getD (kindAt ss o.kind) Shp.none).fields.length ∧ b < w0.heap.size ∧ ∀ i, i < (ss.getD (kindAt ss o.kind) Shp.none).fields.length → OwnFld w0 b (i * 11) ((ss.getD (kindAt ss o.kind) Shp.none).fields.getD i Fld.none)) ∧ Below w.heap.size w w' := by
  have HS : Hid (ShpsIn w0 B ss ∧ Below w0.heap.size w0 w) := ⟨h, hb0⟩
  have hl := h.len
  clear h hb0
  have HB0 : Hid (Below w.heap.size w (w.alloc (.cells #[.string o.kind, .string o.name, .string o.team, .slice (some ⟨b1, 0, none⟩) o.values.length c1, .bool o.ending, .slice (some ⟨b2, 0, none⟩) o.holds.length c2, .int .i64 o.version] 39))) := blw_alloc (Below.refl _ _) _
  have HSX : Hid (ShpsIn (w.alloc (.cells #[.string o.kind, .string o.name, .string o.team, .slice (some ⟨b1, 0, none⟩) o.values.length c1, .bool o.ending, .slice (some ⟨b2, 0, none⟩) o.holds.length c2, .int .i64 o.version] 39)) B ss) := HS.out.1.later (blw_trans HS.out.2 HB0.out)
  by_cases hk : kindAt ss o.kind < ss.length
  case neg =>
    have HF : Hid (hasFields ss o = false) := by show hasFields ss o = false; simp [hasFields, hasKind, hk]
    have HC : Hid (Calls Try.prog 51 #[.slice (some ⟨B, 0, none⟩) ss.length ss.length, .string o.kind] (w.alloc (.cells #[.string o.kind, .string o.name, .string o.team, .slice (some ⟨b1, 0, none⟩) o.values.length c1, .bool o.ending, .slice (some ⟨b2, 0, none⟩) o.holds.length c2, .int .i64 o.version] 39)) fun e w' => e = .returned (.int .i64 (-1)) ∧ (w.alloc (.cells #[.string o.kind, .string o.name, .string o.team, .slice (some ⟨b1, 0, none⟩) o.values.length c1, .bool o.ending, .slice (some ⟨b2, 0, none⟩) o.holds.length c2, .int .i64 o.version] 39)) = w') := by
      have := l1Shape_any B ss o.kind _ HSX.out
      rw [if_neg hk] at this
      exact this
    clear hk
    go_enter Try.func22, Try.ntmps22
    go_wp2_with fail
    refine HC.out.mono ?_
    rintro e w1 ⟨rfl, rfl⟩
    go_wp2_with fail
    go_quiet (fail)
    go_wp2
    refine bodyPost_ret (v := .tuple #[.slice (some ⟨w.heap.size + 1, 0, none⟩) 0 0, .bool false]) (by simp [results, Try.results22, go_sem]) rfl ?_
    exact ⟨_, _, _, by rw [HF.out], fun hh => (by rw [HF.out] at hh; cases hh), by repeat (first | exact HB0.out | refine blw_alloc ?_ _ | refine blw_drewN ?_ _)⟩
  have HC : Hid (Calls Try.prog 51 #[.slice (some ⟨B, 0, none⟩) ss.length ss.length, .string o.kind] (w.alloc (.cells #[.string o.kind, .string o.name, .string o.team, .slice (some ⟨b1, 0, none⟩) o.values.length c1, .bool o.ending, .slice (some ⟨b2, 0, none⟩) o.holds.length c2, .int .i64 o.version] 39)) fun e w' => e = .returned (.int .i64 (kindAt ss o.kind : Int)) ∧ (w.alloc (.cells #[.string o.kind, .string o.name, .string o.team, .slice (some ⟨b1, 0, none⟩) o.values.length c1, .bool o.ending, .slice (some ⟨b2, 0, none⟩) o.holds.length c2, .int .i64 o.version] 39)) = w') := by
    have := l1Shape_any B ss o.kind _ HSX.out
    rw [if_pos hk] at this
    exact this
  obtain ⟨k, hkk⟩ : ∃ k, k = kindAt ss o.kind := ⟨_, rfl⟩
  obtain ⟨b, _, hbl, hfl, _, _, d1, hf⟩ := HS.out.1.at_ (kindAt ss o.kind) hk
  have e1 : w.cell? ⟨B, k * 2 + 1, none⟩ = some (.slice (some ⟨b, 0, none⟩) (ss.getD (kindAt ss o.kind) Shp.none).fields.length (ss.getD (kindAt ss o.kind) Shp.none).fields.length) := by rw [hkk]; exact (HS.out.2.cell (p := ⟨B, _, none⟩) HS.out.1.lt).trans d1
  have hB : B < w.heap.size := Nat.lt_of_lt_of_le HS.out.1.lt HS.out.2.size
  obtain ⟨fs, hfs⟩ : ∃ fs, fs = (ss.getD (kindAt ss o.kind) Shp.none).fields := ⟨_, rfl⟩
  have HP : Hid (b < w0.heap.size ∧ (∀ i, i < fs.length → OwnFld w0 b (i * 11) (fs.getD i Fld.none)) ∧ fs = (ss.getD (kindAt ss o.kind) Shp.none).fields) := ⟨hbl, by rw [hfs]; exact hf, hfs⟩
  have HF : Hid (hasFields ss o = decide (o.values.length = fs.length)) := by show hasFields ss o = _; unfold hasFields hasKind; rw [hfs]; simp [hk]
  rw [← hfs] at e1 hfl
  rw [← hkk] at hk HC
  clear hkk hfs hf d1 hbl HSX
  by_cases heq : o.values.length = fs.length
  case neg =>
    have hne : (((fs.length : Int)) != (o.values.length : Int)) = true := by simp; omega
    have hk0 : decide ((k : Int) < 0) = false := by simp
    go_enter Try.func22, Try.ntmps22
    go_wp2_with fail
    refine HC.out.mono ?_
    rintro e w1 ⟨rfl, rfl⟩
    go_wp2_with fail
    go_quiet (fail)
    go_wp2
    refine bodyPost_ret (v := .tuple #[.slice (some ⟨w.heap.size + 1, 0, none⟩) 0 0, .bool false]) (by simp [results, Try.results22, go_sem]) rfl ?_
    exact ⟨_, _, _, by rw [HF.out, decide_eq_false heq], fun hh => (by rw [HF.out] at hh; simp [heq] at hh), by repeat (first | exact HB0.out | refine blw_alloc ?_ _ | refine blw_drewN ?_ _)⟩
  have hne : (((fs.length : Int)) != (o.values.length : Int)) = false := by simp; omega
  have hk0 : decide ((k : Int) < 0) = false := by simp
  have HQ : Hid (o.values.length = fs.length) := heq
  clear heq
  go_enter Try.func22, Try.ntmps22
  go_wp2_with fail
  refine HC.out.mono ?_
  rintro e w1 ⟨rfl, rfl⟩
  go_wp2_with fail
  go_quiet (fail)
  go_wp2
  refine bodyPost_ret (v := .tuple #[.slice (some ⟨b, 0, none⟩) fs.length fs.length, .bool true]) (by simp [results, Try.results22, go_sem]) rfl ?_
  exact ⟨_, _, _, by rw [HF.out, decide_eq_true HQ.out], fun _ => ⟨b, by rw [← HP.out.2.2], HP.out.1, by rw [← HP.out.2.2]; exact HP.out.2.1⟩, by repeat (first | exact HB0.out | refine blw_alloc ?_ _ | refine blw_drewN ?_ _)⟩

end Go.Proofs.Ytliaibdbcaglnaa
