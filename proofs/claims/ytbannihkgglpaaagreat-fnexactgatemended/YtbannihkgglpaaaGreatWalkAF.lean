/-
  Walks: objects: sizes, copies, equality, marks.
-/
import Derived.Test.YtbannihkgglpaaaGreatWalkAE
import Derived.Test.YtbannihkgglpaaaGreatWalkAB
namespace Go.Proofs.YtbannihkgglpaaaGreat
open Go.RowKit Go.Deep

theorem OwnBlk.alloc_at (W : World) (cs : Array Value) (t : TypeId) (m n : Nat) (h : cs.size = m) (hn : n = W.heap.size) : OwnBlk (W.alloc (.cells cs t)) n t m := by
  subst hn; exact OwnBlk.alloc W cs t m h

def Ob.sized (o : Ob) : Prop := o.kind.size ≤ maxLen ∧ o.name.size ≤ maxLen ∧ o.team.size ≤ maxLen

set_option maxHeartbeats 1000000 in
theorem szObj (o : Ob) (v1 v2 : Value) (left : Int) (w : World) (h0 : 0 ≤ left) (h1 : left ≤ 1048576) (t1 : Texts w v1 o.values) (t2 : Texts w v2 o.holds) (hs : o.sized) :
    Calls Tryz.prog 7 #[.agg #[.string o.kind, .string o.name, .string o.team, v1, .bool o.ending, v2, .int .i64 o.version], .int .i64 left] w fun e w' => (∃ r : Int, e = .returned (.int .i64 r) ∧ szP (o.values.length ≤ 1048576 ∧ o.holds.length ≤ 1048576) left r) ∧ Below w.heap.size w w' := by
  obtain ⟨s1, s2, s3⟩ := hs
  unfold maxLen at s1 s2 s3
  have HT : Hid (∀ o', Texts (w.alloc o') v1 o.values ∧ Texts (w.alloc o') v2 o.holds) := fun o' => ⟨t1.later (blw_alloc (Below.refl _ _) o'), t2.later (blw_alloc (Below.refl _ _) o')⟩
  clear t1 t2
  by_cases c1 : left < (o.kind.size : Int)
  · go_enter Tryz.func7, Tryz.ntmps7
    go_wp2
    go_ret
    exact ⟨⟨_, rfl, by unfold szP; exact ⟨by omega, by omega, by omega⟩⟩, blw_alloc (Below.refl _ _) _⟩
  by_cases c2 : left - o.kind.size < (o.name.size : Int)
  · go_enter Tryz.func7, Tryz.ntmps7
    go_wp2
    go_ret
    exact ⟨⟨_, rfl, by unfold szP; exact ⟨by omega, by omega, by omega⟩⟩, blw_alloc (Below.refl _ _) _⟩
  by_cases c3 : left - o.kind.size - o.name.size < (o.team.size : Int)
  · go_enter Tryz.func7, Tryz.ntmps7
    go_wp2
    go_ret
    exact ⟨⟨_, rfl, by unfold szP; exact ⟨by omega, by omega, by omega⟩⟩, blw_alloc (Below.refl _ _) _⟩
  go_enter Tryz.func7, Tryz.ntmps7
  go_wp2_with fail
  refine (szTexts_any v1 o.values _ _ (by omega) (by omega) (HT.out _).1).mono ?_
  rintro e w1 ⟨⟨r, rfl, hr⟩, rfl⟩
  have q1 : -1 ≤ r := hr.1
  have q2 : r ≤ left - o.kind.size - o.name.size - o.team.size := hr.2.1
  have HR : Hid (0 ≤ r → (o.values.length : Int) ≤ 1048576) := fun h => by have := hr.2.2 h; omega
  clear hr
  by_cases c4 : r < 0
  · go_wp2
    go_ret
    exact ⟨⟨_, rfl, by unfold szP; exact ⟨by omega, by omega, by omega⟩⟩, blw_alloc (Below.refl _ _) _⟩
  go_wp2_with fail
  refine (szTexts_any v2 o.holds _ _ (by omega) (by omega) (HT.out _).2).mono ?_
  rintro e w2 ⟨⟨r2, rfl, hr2⟩, rfl⟩
  have q3 : -1 ≤ r2 := hr2.1
  have q4 : r2 ≤ r := hr2.2.1
  have HR2 : Hid (0 ≤ r2 → (o.holds.length : Int) ≤ 1048576) := fun h => by have := hr2.2.2 h; omega
  clear hr2
  by_cases c5 : r2 < 0
  all_goals
    go_wp2
    go_ret
    refine ⟨⟨_, rfl, ?_⟩, blw_alloc (Below.refl _ _) _⟩
    unfold szP
    exact ⟨by omega, by omega, fun h => ⟨by have := HR.out (by omega); omega, by have := HR2.out (by omega); omega⟩⟩

set_option maxHeartbeats 2000000 in
theorem toObj (o : Ob) (v1 v2 : Value) (w : World) (hl1 : o.values.length ≤ 1048576) (hl2 : o.holds.length ≤ 1048576) (t1 : Texts w v1 o.values) (t2 : Texts w v2 o.holds) :
    Calls Tryz.prog 11 #[.agg #[.string o.kind, .string o.name, .string o.team, v1, .bool o.ending, v2, .int .i64 o.version]] w fun e w' => (∃ b1 b2, e = .returned (.agg #[.string o.kind, .string o.name, .string o.team, .slice (some ⟨b1, 0, none⟩) o.values.length o.values.length, .bool o.ending, .slice (some ⟨b2, 0, none⟩) o.holds.length o.holds.length, .int .i64 o.version]) ∧ ObArg w' b1 b2 o ∧ OwnBlk w' b1 9 o.values.length ∧ OwnBlk w' b2 9 o.holds.length ∧ w.heap.size ≤ b1 ∧ b1 < b2) ∧ Below w.heap.size w w' := by
  have HT : Hid (∀ W, Below w.heap.size w W → Texts W v1 o.values ∧ Texts W v2 o.holds) := fun W h => ⟨t1.later h, t2.later h⟩
  clear t1 t2
  go_enter Tryz.func11, Tryz.ntmps11
  go_wp2_with fail
  refine (toTexts_any v1 o.values _ hl1 (HT.out _ (by repeat (first | exact Below.refl _ _ | refine blw_alloc ?_ _))).1).mono ?_
  rintro e w1 ⟨cs1, rfl, rfl, hsz1, hcs1⟩
  have HC1 : Hid (cs1.size = o.values.length ∧ ∀ j, j < o.values.length → cs1[j]? = some (.string (o.values.getD j ByteArray.empty))) := ⟨hsz1, hcs1⟩
  clear hsz1 hcs1
  go_wp2_with fail
  refine (toTexts_any v2 o.holds _ hl2 (HT.out _ (by repeat (first | exact Below.refl _ _ | refine blw_alloc ?_ _))).2).mono ?_
  rintro e w2 ⟨cs2, rfl, rfl, hsz2, hcs2⟩
  have HC2 : Hid (cs2.size = o.holds.length ∧ ∀ j, j < o.holds.length → cs2[j]? = some (.string (o.holds.getD j ByteArray.empty))) := ⟨hsz2, hcs2⟩
  clear hsz2 hcs2 HT
  go_wp2
  refine bodyPost_ret (v := .agg #[.string o.kind, .string o.name, .string o.team, .slice (some ⟨w.heap.size + 1 + 1 + 1, 0, none⟩) o.values.length o.values.length, .bool o.ending, .slice (some ⟨w.heap.size + 1 + 1 + 1 + 1, 0, none⟩) o.holds.length o.holds.length, .int .i64 o.version]) (by simp [results, Tryz.results11, go_sem]) rfl ⟨⟨w.heap.size + 1 + 1 + 1, w.heap.size + 1 + 1 + 1 + 1, rfl, ⟨by simp, by simp, hl1, hl2, fun i hi => ?_, fun i hi => ?_⟩, ?_, ?_, by omega, by omega⟩, ?_⟩
  · rw [World.cell?_alloc_past _ _ _ (by simp), World.cell?_alloc_at cs1 9 _ _ (by simp)]
    exact HC1.out.2 i hi
  · rw [World.cell?_alloc_at cs2 9 _ _ (by simp)]
    exact HC2.out.2 i hi
  · exact (OwnBlk.alloc_at _ cs1 9 _ _ HC1.out.1 (by simp)).past _
  · exact OwnBlk.alloc_at _ cs2 9 _ _ HC2.out.1 (by simp)
  · repeat (first | exact Below.refl _ _ | refine blw_alloc ?_ _)

theorem CT.texts {w : World} {lo hi : Nat} {v : Value} {ss : List ByteArray} (h : CT w lo hi v ss) (hl : ss.length ≤ 1048576) (hs : ∀ i, i < ss.length → (ss.getD i ByteArray.empty).size ≤ maxLen) : Texts w v ss := by
  rcases h with ⟨rfl, rfl⟩ | ⟨g, cap, rfl, g1, g2, g3, g4, g5⟩
  · exact Or.inl ⟨_, _, rfl, rfl⟩
  · exact Or.inr ⟨g, 0, cap, rfl, g3.lt, hs, by unfold maxLen; omega, fun i hi => by rw [Nat.zero_add]; exact g5 i hi⟩

set_option maxHeartbeats 400000 in
theorem eqTexts_nil (a a' : Option Addr) (c c' : Nat) (w : World) :
    Calls Tryz.prog 34 #[.slice a 0 c, .slice a' 0 c'] w fun e w' => e = .returned (.bool true) ∧ w = w' := by
  go_enter Tryz.func34, Tryz.ntmps34
  go_wp2
  refine wp_loop_rounds 1 ?_
  rw [rounds_succ]
  go_wp2
  go_ret
  exact ⟨rfl, rfl⟩

theorem eqTexts_any (v v' : Value) (ss : List ByteArray) (w : World) (h : Texts w v ss) (h' : Texts w v' ss) :
    Calls Tryz.prog 34 #[v, v'] w fun e w' => e = .returned (.bool true) ∧ Below w.heap.size w w' := by
  have nil : ∀ {u : Value}, Texts w u [] → ∃ a c, u = .slice a 0 c := by
    intro u hu
    rcases hu with ⟨a, c, rfl, _⟩ | ⟨b, off, cap, rfl, _⟩
    · exact ⟨a, c, rfl⟩
    · exact ⟨_, _, rfl⟩
  by_cases h0 : ss = []
  · subst h0
    obtain ⟨a, c, rfl⟩ := nil h
    obtain ⟨a', c', rfl⟩ := nil h'
    refine (eqTexts_nil a a' c c' w).mono ?_
    rintro e w' ⟨rfl, rfl⟩
    exact ⟨rfl, Below.refl _ _⟩
  · rcases h with ⟨_, _, _, e⟩ | ⟨b, off, cap, rfl, _, _, h3, h4⟩
    · exact absurd e h0
    rcases h' with ⟨_, _, _, e⟩ | ⟨b', off', cap', rfl, _, _, _, h4'⟩
    · exact absurd e h0
    exact eqTexts_row b off cap b' off' cap' ss w h3 h4 h4'

set_option maxHeartbeats 2000000 in
theorem eqObj (o : Ob) (v1 v2 u1 u2 : Value) (w : World) (t1 : Texts w v1 o.values) (t2 : Texts w v2 o.holds) (r1 : Texts w u1 o.values) (r2 : Texts w u2 o.holds) :
    Calls Tryz.prog 13 #[.agg #[.string o.kind, .string o.name, .string o.team, v1, .bool o.ending, v2, .int .i64 o.version], .agg #[.string o.kind, .string o.name, .string o.team, u1, .bool o.ending, u2, .int .i64 o.version]] w fun e w' => e = .returned (.bool true) ∧ Below w.heap.size w w' := by
  have HT : Hid (∀ W, Below w.heap.size w W → (Texts W v1 o.values ∧ Texts W u1 o.values) ∧ Texts W v2 o.holds ∧ Texts W u2 o.holds) := fun W h => ⟨⟨t1.later h, r1.later h⟩, t2.later h, r2.later h⟩
  clear t1 t2 r1 r2
  have HB : Hid (Below w.heap.size w ((w.alloc (.cells #[.string o.kind, .string o.name, .string o.team, v1, .bool o.ending, v2, .int .i64 o.version] 30)).alloc (.cells #[.string o.kind, .string o.name, .string o.team, u1, .bool o.ending, u2, .int .i64 o.version] 30))) := blw_alloc (blw_alloc (Below.refl _ _) _) _
  go_enter Tryz.func13, Tryz.ntmps13
  go_wp2_with fail
  refine (eqTexts_any v1 u1 o.values _ (HT.out _ HB.out).1.1 (HT.out _ HB.out).1.2).mono ?_
  rintro e w1 ⟨rfl, hb1⟩
  have HB1 : Hid (Below w.heap.size w w1) := blw_trans HB.out hb1
  have k1 : ∀ q, w1.cell? ⟨w.heap.size, q, none⟩ = ((w.alloc (.cells #[.string o.kind, .string o.name, .string o.team, v1, .bool o.ending, v2, .int .i64 o.version] 30)).alloc (.cells #[.string o.kind, .string o.name, .string o.team, u1, .bool o.ending, u2, .int .i64 o.version] 30)).cell? ⟨w.heap.size, q, none⟩ := fun q => hb1.cell (p := ⟨w.heap.size, q, none⟩) (by simp; omega)
  have k1' : ∀ q, w1.cell? ⟨w.heap.size + 1, q, none⟩ = ((w.alloc (.cells #[.string o.kind, .string o.name, .string o.team, v1, .bool o.ending, v2, .int .i64 o.version] 30)).alloc (.cells #[.string o.kind, .string o.name, .string o.team, u1, .bool o.ending, u2, .int .i64 o.version] 30)).cell? ⟨w.heap.size + 1, q, none⟩ := fun q => hb1.cell (p := ⟨w.heap.size + 1, q, none⟩) (by simp)
  have z1 : w.heap.size + 1 < w1.heap.size := by have := hb1.size; simp at this; omega
  clear hb1
  go_wp2_with fail
  refine (eqTexts_any v2 u2 o.holds _ (HT.out _ HB1.out).2.1 (HT.out _ HB1.out).2.2).mono ?_
  rintro e w2 ⟨rfl, hb2⟩
  have HB2 : Hid (Below w.heap.size w w2) := blw_trans HB1.out hb2
  have k2 : ∀ q, w2.cell? ⟨w.heap.size, q, none⟩ = ((w.alloc (.cells #[.string o.kind, .string o.name, .string o.team, v1, .bool o.ending, v2, .int .i64 o.version] 30)).alloc (.cells #[.string o.kind, .string o.name, .string o.team, u1, .bool o.ending, u2, .int .i64 o.version] 30)).cell? ⟨w.heap.size, q, none⟩ := fun q => (hb2.cell (p := ⟨w.heap.size, q, none⟩) (by show w.heap.size < w1.heap.size; omega)).trans (k1 q)
  have k2' : ∀ q, w2.cell? ⟨w.heap.size + 1, q, none⟩ = ((w.alloc (.cells #[.string o.kind, .string o.name, .string o.team, v1, .bool o.ending, v2, .int .i64 o.version] 30)).alloc (.cells #[.string o.kind, .string o.name, .string o.team, u1, .bool o.ending, u2, .int .i64 o.version] 30)).cell? ⟨w.heap.size + 1, q, none⟩ := fun q => (hb2.cell (p := ⟨w.heap.size + 1, q, none⟩) z1).trans (k1' q)
  clear hb2 k1 k1'
  go_wp2
  go_ret
  exact ⟨rfl, HB2.out⟩

end Go.Proofs.YtbannihkgglpaaaGreat
