/-
  Walks: copies of objects: the program.
-/
import Derived.Laws.AppendOwnNone
import Derived.Test.YtfdahoekjpobaaaGreatMarks
import Derived.Test.YtfdahoekjpobaaaGreatWalkK
import Derived.Test.YtfdahoekjpobaaaGreatPuts
namespace Go.Proofs.YtfdahoekjpobaaaGreat
open Go.RowKit Go.Deep

/-- A list of texts in a block of the call's own from lo on, below hi, or nil. -/
def CT (w : World) (lo hi : Nat) (v : Value) (ss : List ByteArray) : Prop :=
  (v = .slice none 0 0 ∧ ss = []) ∨ ∃ g cap, v = .slice (some ⟨g, 0, none⟩) ss.length cap ∧ lo ≤ g ∧ g < hi ∧ OwnBlk w g 9 cap ∧ ss.length ≤ cap ∧ ∀ i, i < ss.length → w.cell? ⟨g, i, none⟩ = some (.string (ss.getD i ByteArray.empty))

theorem CT.of_owns {w : World} {lo : Nat} {v : Value} {ss : List ByteArray} (h : w.ownsRow lo 9 1 v ss.length (ss.map Value.string)) : CT w lo w.heap.size v ss := by
  rcases h with ⟨_, ⟨rfl, hn⟩ | ⟨g, cap, cur, rfl, hg, hb, hn, _, hcs, ht⟩⟩
  · exact Or.inl ⟨rfl, List.length_eq_zero_iff.1 hn⟩
  · have hO : OwnBlk w g 9 cap := ⟨cur, hb, by omega⟩
    refine Or.inr ⟨g, cap, rfl, hg, hO.lt, hO, hn, fun i hi => ?_⟩
    have hc : w.cell? ⟨g, i, none⟩ = cur[i]? := by simp [World.cell?, hb]
    rw [hc]
    have e : (cur.toList.take (ss.length * 1))[i]? = (ss.map Value.string)[i]? := by rw [ht]
    rw [List.getElem?_take, if_pos (by omega)] at e
    rw [← Array.getElem?_toList, e]
    simp [hi]

theorem CT.later {w w' : World} {lo hi : Nat} {v : Value} {ss : List ByteArray} (h : CT w lo hi v ss) (hb : Below w.heap.size w w') : CT w' lo hi v ss := by
  rcases h with h | ⟨g, cap, rfl, h1, h1', h2, h3, h4⟩
  · exact Or.inl h
  · exact Or.inr ⟨g, cap, rfl, h1, h1', h2.later hb, h3, fun i hi => (hb.cell (p := ⟨g, i, none⟩) h2.lt).trans (h4 i hi)⟩

theorem CT.sc {w : World} {lo hi : Nat} {v : Value} {ss : List ByteArray} (h : CT w lo hi v ss) {B : Nat} (hB : B < lo ∨ hi ≤ B) (o : Nat) (x : Value) : CT (w.setCell ⟨B, o, none⟩ x) lo hi v ss := by
  rcases h with h | ⟨g, cap, rfl, h1, h1', h2, h3, h4⟩
  · exact Or.inl h
  · exact Or.inr ⟨g, cap, rfl, h1, h1', h2.sc_other (by omega) o x, h3, fun i hi => (sc_ne w B o x g i (Or.inl (by omega))).trans (h4 i hi)⟩

theorem CT.mono {w : World} {lo hi lo' hi' : Nat} {v : Value} {ss : List ByteArray} (h : CT w lo hi v ss) (h1 : lo' ≤ lo) (h2 : hi ≤ hi') : CT w lo' hi' v ss := by
  rcases h with h | ⟨g, cap, rfl, g1, g2, g3, g4, g5⟩
  · exact Or.inl h
  · exact Or.inr ⟨g, cap, rfl, by omega, by omega, g3, g4, g5⟩

theorem below_of_grown {w w' : World} (hg : w.grownBy w' none) : Below w.heap.size w w' := Below.grown (Below.refl _ _) hg (Nat.le_refl _) (fun k e => by cases e)


theorem wpList_append_ownG {P : Program} (w : World) {ops : Array Oper} {rest : List Oper} {o : Oper} {a : Act} {Q : Exit → Act → World → Prop} (hgd : o.guard = none) (s x : Operand) (t : TypeId)
    (ho : o.op = .call { callee := .builtin .append, args := #[s, x], argTypes := #[t, t] })
    (base : Nat) (e : TypeId) (i : TypeInfo) (z : Value) (size bytes : Nat) (ht : P.underlying t = some (.slice e)) (hi : P.info? e = some i) (hz : i.zero = some z)
    (hsize : i.size = size) (hby : i.bytes = bytes) (hzs : z.cells.size = size) (hsz : 0 < size)
    (v : Value) (n : Nat) (xs : List Value) (hs : a.eval s = v) (hown : w.ownsRow base e size v n xs)
    (ad : Option Addr) (m c : Nat) (news : List Value) (hx : a.eval x = .slice ad m c) (hl : news.length = m * size)
    (hsrc : (ad = none ∧ m = 0 ∧ c = 0) ∨ ∃ a0, ad = some a0 ∧ ∀ j u, news[j]? = some u → w.cell? (a0.add j) = some u) (h1 : ∀ u ∈ news, u.oneCell' = true)
    (h63 : n + m ≤ maxLen) (hbytes : (n + m) * bytes ≤ 140737488355328) (hbase : base ≤ w.heap.size)
    (h : ∀ v' w', w'.ownsRow base e size v' (n + m) (xs ++ news) → w.grownBy w' v.ownBlock → (v' = .slice none 0 0 ↔ v = .slice none 0 0 ∧ m = 0) → wpList P ops Q rest (a.put o.dst v') w') : wpList P ops Q (o :: rest) a w := by
  rcases hsrc with ⟨rfl, rfl, rfl⟩ | ⟨a0, rfl, hnews⟩
  · have hn : news = [] := List.length_eq_zero_iff.1 (by simpa using hl)
    subst hn
    exact wpList_append_own_none hgd s x t ho base e i size ht hi v n xs hs hown hx (h v w (by simpa using hown) (World.grownBy.refl _ _) (by simp))
  · exact wpList_append_own w hgd s x t ho base e i z size bytes ht hi hz hsize hby hzs hsz v n xs hs hown a0 m c news hx hl hnews h1 h63 hbytes hbase h

/-- A list of texts that is handed in: in a block, or nil. -/
def TxG (w : World) (a : Option Addr) (c : Nat) (ss : List ByteArray) : Prop :=
  (a = none ∧ c = 0 ∧ ss = []) ∨ ∃ b, a = some ⟨b, 0, none⟩ ∧ b < w.heap.size ∧ ∀ i, i < ss.length → w.cell? ⟨b, i, none⟩ = some (.string (ss.getD i ByteArray.empty))

theorem TxG.later {w w' : World} {a : Option Addr} {c : Nat} {ss : List ByteArray} (h : TxG w a c ss) (hb : Below w.heap.size w w') : TxG w' a c ss := by
  rcases h with h | ⟨b, rfl, h1, h2⟩
  · exact Or.inl h
  · exact Or.inr ⟨b, rfl, Nat.lt_of_lt_of_le h1 hb.size, fun i hi => (hb.cell (p := ⟨b, i, none⟩) h1).trans (h2 i hi)⟩

theorem CT.g {w : World} {lo hi n c : Nat} {a : Option Addr} {ss : List ByteArray} (h : CT w lo hi (.slice a n c) ss) : n = ss.length ∧ TxG w a c ss := by
  rcases h with ⟨h, rfl⟩ | ⟨g, cap, h, _, _, h4, _, h6⟩
  · injection h with h1 h2 h3
    exact ⟨h2, Or.inl ⟨h1, h3, rfl⟩⟩
  · injection h with h1 h2 h3
    exact ⟨h2, Or.inr ⟨g, h1, h4.lt, h6⟩⟩

theorem src_cells {w : World} {b : Nat} {ss : List ByteArray} (hc : ∀ i, i < ss.length → w.cell? ⟨b, i, none⟩ = some (.string (ss.getD i ByteArray.empty))) :
    ∀ j u, (ss.map Value.string)[j]? = some u → w.cell? (Addr.add ⟨b, 0, none⟩ j) = some u := by
  intro j u hj
  rw [List.getElem?_map] at hj
  cases hq : ss[j]? with
  | none => rw [hq] at hj; cases hj
  | some s =>
    rw [hq] at hj
    have hjl : j < ss.length := by
      by_cases hjl : j < ss.length
      · exact hjl
      · rw [List.getElem?_eq_none (by omega)] at hq; cases hq
    have := hc j hjl
    have e : ss.getD j ByteArray.empty = s := by simp [hq]
    rw [e] at this
    injection hj with hj
    rw [← hj]
    by_cases h0 : j = 0
    · subst h0; simpa [Addr.add] using this
    · simpa [Addr.add, h0] using this

theorem TxG.src {w : World} {a : Option Addr} {c : Nat} {ss : List ByteArray} (h : TxG w a c ss) : (a = none ∧ ss.length = 0 ∧ c = 0) ∨ ∃ a0, a = some a0 ∧ ∀ j u, (ss.map Value.string)[j]? = some u → w.cell? (a0.add j) = some u := by
  rcases h with ⟨rfl, rfl, rfl⟩ | ⟨b, rfl, _, h⟩
  · exact Or.inl ⟨rfl, rfl, rfl⟩
  · exact Or.inr ⟨_, rfl, src_cells h⟩

set_option maxRecDepth 8000 in
set_option maxHeartbeats 1000000 in
theorem copyTextsG (b : Option Addr) (c : Nat) (ss : List ByteArray) (w : World) (hl : ss.length ≤ 1048576) (hc : TxG w b c ss) :
    Calls Tryz.prog 50 #[.slice b ss.length c] w fun e w' => (∃ a n c, e = .returned (.slice a n c) ∧ CT w' w.heap.size w'.heap.size (.slice a n c) ss) ∧ Below w.heap.size w w' := by
  obtain ⟨i0, hi, hz0, hz1, hz2⟩ := info_parts Tryz.info9
  go_enter Tryz.func50, Tryz.ntmps50
  go_wp2_with (at_builtin; refine wpList_append_ownG _ rfl _ _ 24 rfl w.heap.size 9 i0 (.string ByteArray.empty) 1 16 Tryz.underlying24 hi hz0 hz1 hz2 rfl (by decide) _ 0 [] rfl (World.ownsRow_nil _ _ _ _) b ss.length c (ss.map Value.string) rfl ?c1 ?c2 ?c3 ?c4 ?c5 ?c6 ?_)
  case c1 => simp
  case c2 => exact hc.src
  case c3 => intro u hu; simp at hu; obtain ⟨s, _, rfl⟩ := hu; rfl
  case c4 => unfold maxLen; omega
  case c5 => omega
  case c6 => exact Nat.le_refl _
  intro v' w1 hown hgrow hnil
  have hct : CT w1 w.heap.size w1.heap.size v' ss := CT.of_owns (by simpa using hown)
  have hB : Below w.heap.size w w1 := below_of_grown hgrow
  obtain ⟨a1, n1, c1, hv1⟩ : ∃ a n c, v' = .slice a n c := by
    rcases hct with ⟨h, _⟩ | ⟨g, cap, h, _⟩
    · exact ⟨_, _, _, h⟩
    · exact ⟨_, _, _, h⟩
  rw [hv1] at hct ⊢
  have HC : Hid (CT w1 w.heap.size w1.heap.size (.slice a1 n1 c1) ss) := hct
  clear hct hown hgrow hnil hv1
  go_wp2
  go_ret
  exact ⟨⟨_, _, _, rfl, HC.out⟩, hB⟩

theorem copyTexts (b c : Nat) (ss : List ByteArray) (w : World) (hb : b < w.heap.size) (hl : ss.length ≤ 1048576) (hc : ∀ i, i < ss.length → w.cell? ⟨b, i, none⟩ = some (.string (ss.getD i ByteArray.empty))) :
    Calls Tryz.prog 50 #[.slice (some ⟨b, 0, none⟩) ss.length c] w fun e w' => (∃ a n c, e = .returned (.slice a n c) ∧ CT w' w.heap.size w'.heap.size (.slice a n c) ss) ∧ Below w.heap.size w w' :=
  copyTextsG (some ⟨b, 0, none⟩) c ss w hl (Or.inr ⟨b, rfl, hb, hc⟩)

end Go.Proofs.YtfdahoekjpobaaaGreat

namespace Go.Proofs.YtfdahoekjpobaaaGreat
open Go.RowKit Go.Deep

structure Ob where
  kind : ByteArray
  name : ByteArray
  team : ByteArray
  values : List ByteArray
  ending : Bool
  holds : List ByteArray
  version : Int

/-- An object that is handed in: its lists lie in the blocks b1, b2. -/
structure ObArg (w : World) (b1 b2 : Nat) (o : Ob) : Prop where
  lt1 : b1 < w.heap.size
  lt2 : b2 < w.heap.size
  len1 : o.values.length ≤ 1048576
  len2 : o.holds.length ≤ 1048576
  at1 : ∀ i, i < o.values.length → w.cell? ⟨b1, i, none⟩ = some (.string (o.values.getD i ByteArray.empty))
  at2 : ∀ i, i < o.holds.length → w.cell? ⟨b2, i, none⟩ = some (.string (o.holds.getD i ByteArray.empty))

theorem ObArg.later {w w' : World} {b1 b2 : Nat} {o : Ob} (h : ObArg w b1 b2 o) (hb : Below w.heap.size w w') : ObArg w' b1 b2 o :=
  ⟨Nat.lt_of_lt_of_le h.lt1 hb.size, Nat.lt_of_lt_of_le h.lt2 hb.size, h.len1, h.len2, fun i hi => (hb.cell (p := ⟨b1, i, none⟩) h.lt1).trans (h.at1 i hi), fun i hi => (hb.cell (p := ⟨b2, i, none⟩) h.lt2).trans (h.at2 i hi)⟩

/-- An object that is handed in: its lists lie in blocks, or are nil. -/
structure ObG (w : World) (b1 : Option Addr) (c1 : Nat) (b2 : Option Addr) (c2 : Nat) (o : Ob) : Prop where
  len1 : o.values.length ≤ 1048576
  len2 : o.holds.length ≤ 1048576
  at1 : TxG w b1 c1 o.values
  at2 : TxG w b2 c2 o.holds

theorem ObG.later {w w' : World} {b1 b2 : Option Addr} {c1 c2 : Nat} {o : Ob} (h : ObG w b1 c1 b2 c2 o) (hb : Below w.heap.size w w') : ObG w' b1 c1 b2 c2 o :=
  ⟨h.len1, h.len2, h.at1.later hb, h.at2.later hb⟩

theorem ObArg.g {w : World} {b1 b2 : Nat} {o : Ob} (c1 c2 : Nat) (h : ObArg w b1 b2 o) : ObG w (some ⟨b1, 0, none⟩) c1 (some ⟨b2, 0, none⟩) c2 o :=
  ⟨h.len1, h.len2, Or.inr ⟨b1, rfl, h.lt1, h.at1⟩, Or.inr ⟨b2, rfl, h.lt2, h.at2⟩⟩

set_option maxHeartbeats 2000000 in
theorem copyObj (o : Ob) (b1 : Option Addr) (c1 : Nat) (b2 : Option Addr) (c2 : Nat) (w : World) (h : ObG w b1 c1 b2 c2 o) :
    Calls Tryz.prog 29 #[.agg #[.string o.kind, .string o.name, .string o.team, .slice b1 o.values.length c1, .bool o.ending, .slice b2 o.holds.length c2, .int .i64 o.version]] w fun e w' => (∃ a1 n1 d1 a2 n2 d2 mid, e = .returned (.agg #[.string o.kind, .string o.name, .string o.team, .slice a1 n1 d1, .bool o.ending, .slice a2 n2 d2, .int .i64 o.version]) ∧ CT w' w.heap.size mid (.slice a1 n1 d1) o.values ∧ CT w' mid w'.heap.size (.slice a2 n2 d2) o.holds ∧ w.heap.size ≤ mid ∧ mid ≤ w'.heap.size) ∧ Below w.heap.size w w' := by
  have HA : Hid (ObG w b1 c1 b2 c2 o) := h
  clear h
  have hO0 : OwnBlk ((w.alloc (.cells #[.string o.kind, .string o.name, .string o.team, .slice b1 o.values.length c1, .bool o.ending, .slice b2 o.holds.length c2, .int .i64 o.version] 30)).alloc (.cells #[.string ⟨#[]⟩, .string ⟨#[]⟩, .string ⟨#[]⟩, .slice none 0 0, .bool false, .slice none 0 0, .int .i64 0] 30)) w.heap.size 30 7 := (OwnBlk.alloc w _ 30 7 rfl).past _
  have hO1 : OwnBlk ((w.alloc (.cells #[.string o.kind, .string o.name, .string o.team, .slice b1 o.values.length c1, .bool o.ending, .slice b2 o.holds.length c2, .int .i64 o.version] 30)).alloc (.cells #[.string ⟨#[]⟩, .string ⟨#[]⟩, .string ⟨#[]⟩, .slice none 0 0, .bool false, .slice none 0 0, .int .i64 0] 30)) (w.heap.size + 1) 30 7 := by
    have := OwnBlk.alloc (w.alloc (.cells #[.string o.kind, .string o.name, .string o.team, .slice b1 o.values.length c1, .bool o.ending, .slice b2 o.holds.length c2, .int .i64 o.version] 30)) #[.string ⟨#[]⟩, .string ⟨#[]⟩, .string ⟨#[]⟩, .slice none 0 0, .bool false, .slice none 0 0, .int .i64 0] 30 7 rfl
    have e : (w.alloc (.cells #[.string o.kind, .string o.name, .string o.team, .slice b1 o.values.length c1, .bool o.ending, .slice b2 o.holds.length c2, .int .i64 o.version] 30)).heap.size = w.heap.size + 1 := by simp
    rw [e] at this
    exact this
  have HO : Hid (OwnBlk ((w.alloc (.cells #[.string o.kind, .string o.name, .string o.team, .slice b1 o.values.length c1, .bool o.ending, .slice b2 o.holds.length c2, .int .i64 o.version] 30)).alloc (.cells #[.string ⟨#[]⟩, .string ⟨#[]⟩, .string ⟨#[]⟩, .slice none 0 0, .bool false, .slice none 0 0, .int .i64 0] 30)) w.heap.size 30 7 ∧ OwnBlk ((w.alloc (.cells #[.string o.kind, .string o.name, .string o.team, .slice b1 o.values.length c1, .bool o.ending, .slice b2 o.holds.length c2, .int .i64 o.version] 30)).alloc (.cells #[.string ⟨#[]⟩, .string ⟨#[]⟩, .string ⟨#[]⟩, .slice none 0 0, .bool false, .slice none 0 0, .int .i64 0] 30)) (w.heap.size + 1) 30 7) := ⟨hO0, hO1⟩
  have hB0 : Below w.heap.size w ((w.alloc (.cells #[.string o.kind, .string o.name, .string o.team, .slice b1 o.values.length c1, .bool o.ending, .slice b2 o.holds.length c2, .int .i64 o.version] 30)).alloc (.cells #[.string ⟨#[]⟩, .string ⟨#[]⟩, .string ⟨#[]⟩, .slice none 0 0, .bool false, .slice none 0 0, .int .i64 0] 30)) := blw_alloc (blw_alloc (Below.refl _ _) _) _
  have HB0 : Hid (Below w.heap.size w ((w.alloc (.cells #[.string o.kind, .string o.name, .string o.team, .slice b1 o.values.length c1, .bool o.ending, .slice b2 o.holds.length c2, .int .i64 o.version] 30)).alloc (.cells #[.string ⟨#[]⟩, .string ⟨#[]⟩, .string ⟨#[]⟩, .slice none 0 0, .bool false, .slice none 0 0, .int .i64 0] 30))) := hB0
  clear hO0 hO1 hB0
  go_enter Tryz.func29, Tryz.ntmps29
  go_wp2_with fail
  refine (copyTextsG b1 c1 o.values _ HA.out.len1 (HA.out.later HB0.out).at1).mono ?_
  rintro e w1 ⟨⟨a1, n1, d1, rfl, hct1⟩, hb1⟩
  have HB1 : Hid (Below w.heap.size w w1) := blw_trans HB0.out hb1
  have HOa1 : Hid (OwnBlk w1 w.heap.size 30 7) := HO.out.1.later hb1
  have HOb1 : Hid (OwnBlk w1 (w.heap.size + 1) 30 7) := HO.out.2.later hb1
  have HC1 : Hid (CT w1 w.heap.size w1.heap.size (.slice a1 n1 d1) o.values ∧ CT w1 (w.heap.size + 2) w1.heap.size (.slice a1 n1 d1) o.values) := by
    have e : ((w.alloc (.cells #[.string o.kind, .string o.name, .string o.team, .slice b1 o.values.length c1, .bool o.ending, .slice b2 o.holds.length c2, .int .i64 o.version] 30)).alloc (.cells #[.string ⟨#[]⟩, .string ⟨#[]⟩, .string ⟨#[]⟩, .slice none 0 0, .bool false, .slice none 0 0, .int .i64 0] 30)).heap.size = w.heap.size + 2 := by simp
    rw [e] at hct1
    exact ⟨hct1.mono (by omega) (Nat.le_refl _), hct1⟩
  have k1 : ∀ q, w1.cell? ⟨w.heap.size, q, none⟩ = ((w.alloc (.cells #[.string o.kind, .string o.name, .string o.team, .slice b1 o.values.length c1, .bool o.ending, .slice b2 o.holds.length c2, .int .i64 o.version] 30)).alloc (.cells #[.string ⟨#[]⟩, .string ⟨#[]⟩, .string ⟨#[]⟩, .slice none 0 0, .bool false, .slice none 0 0, .int .i64 0] 30)).cell? ⟨w.heap.size, q, none⟩ := fun q => hb1.cell (p := ⟨w.heap.size, q, none⟩) HO.out.1.lt
  have hz1 := HOa1.out.frozen
  have hs1 : w.heap.size + 1 < w1.heap.size := HOb1.out.lt
  clear hct1 hb1
  go_wp2_with fail
  have HB1' : Hid (Below w.heap.size w (w1.setCell ⟨w.heap.size, 3, none⟩ (.slice a1 n1 d1))) := HB1.out.setCell (p := ⟨w.heap.size, 3, none⟩) (Nat.le_refl _) _
  refine (copyTextsG b2 c2 o.holds _ HA.out.len2 (HA.out.later HB1'.out).at2).mono ?_
  rintro e w2 ⟨⟨a2, n2, d2, rfl, hct2⟩, hb2⟩
  have HB2 : Hid (Below w.heap.size w w2) := blw_trans HB1'.out hb2
  have HOa : Hid (OwnBlk (w1.setCell ⟨w.heap.size, 3, none⟩ (.slice a1 n1 d1)) w.heap.size 30 7) := HOa1.out.setCell 3 _
  have HOb : Hid (OwnBlk (w1.setCell ⟨w.heap.size, 3, none⟩ (.slice a1 n1 d1)) (w.heap.size + 1) 30 7) := HOb1.out.sc_other (by omega) 3 _
  have HOa2 : Hid (OwnBlk w2 w.heap.size 30 7) := HOa.out.later hb2
  have HOb2 : Hid (OwnBlk w2 (w.heap.size + 1) 30 7) := HOb.out.later hb2
  have HC2 : Hid (CT w2 (w.heap.size + 2) w1.heap.size (.slice a1 n1 d1) o.values ∧ CT w2 w1.heap.size w2.heap.size (.slice a2 n2 d2) o.holds ∧ w1.heap.size ≤ w2.heap.size) := by
    have e : (w1.setCell ⟨w.heap.size, 3, none⟩ (.slice a1 n1 d1)).heap.size = w1.heap.size := by simp [World.setCell]
    have hsz := hb2.size
    rw [e] at hct2 hsz
    exact ⟨(HC1.out.2.sc (Or.inl (by omega)) 3 _).later hb2, hct2, hsz⟩
  have e0 : w2.cell? ⟨w.heap.size, 0, none⟩ = some (.string o.kind) := ((hb2.cell (p := ⟨w.heap.size, 0, none⟩) HOa.out.lt).trans (sc_ne _ _ _ _ _ _ (Or.inr (by omega)))).trans ((k1 0).trans (by simp))
  have e1 : w2.cell? ⟨w.heap.size, 1, none⟩ = some (.string o.name) := ((hb2.cell (p := ⟨w.heap.size, 1, none⟩) HOa.out.lt).trans (sc_ne _ _ _ _ _ _ (Or.inr (by omega)))).trans ((k1 1).trans (by simp))
  have e2 : w2.cell? ⟨w.heap.size, 2, none⟩ = some (.string o.team) := ((hb2.cell (p := ⟨w.heap.size, 2, none⟩) HOa.out.lt).trans (sc_ne _ _ _ _ _ _ (Or.inr (by omega)))).trans ((k1 2).trans (by simp))
  have e3 : w2.cell? ⟨w.heap.size, 3, none⟩ = some (.slice a1 n1 d1) := (hb2.cell (p := ⟨w.heap.size, 3, none⟩) HOa.out.lt).trans (sc_eq HOa1.out 3 (by omega) _)
  have e4 : w2.cell? ⟨w.heap.size, 4, none⟩ = some (.bool o.ending) := ((hb2.cell (p := ⟨w.heap.size, 4, none⟩) HOa.out.lt).trans (sc_ne _ _ _ _ _ _ (Or.inr (by omega)))).trans ((k1 4).trans (by simp))
  have e5 : w2.cell? ⟨w.heap.size, 5, none⟩ = some (.slice b2 o.holds.length c2) := ((hb2.cell (p := ⟨w.heap.size, 5, none⟩) HOa.out.lt).trans (sc_ne _ _ _ _ _ _ (Or.inr (by omega)))).trans ((k1 5).trans (by simp))
  have e6 : w2.cell? ⟨w.heap.size, 6, none⟩ = some (.int .i64 o.version) := ((hb2.cell (p := ⟨w.heap.size, 6, none⟩) HOa.out.lt).trans (sc_ne _ _ _ _ _ _ (Or.inr (by omega)))).trans ((k1 6).trans (by simp))
  have hz2 := HOa2.out.frozen
  have hz2b := HOb2.out.frozen
  obtain ⟨y0, hy0⟩ := HOb2.out.cell 0 (by omega)
  obtain ⟨y1, hy1⟩ := HOb2.out.cell 1 (by omega)
  obtain ⟨y2, hy2⟩ := HOb2.out.cell 2 (by omega)
  obtain ⟨y3, hy3⟩ := HOb2.out.cell 3 (by omega)
  obtain ⟨y4, hy4⟩ := HOb2.out.cell 4 (by omega)
  obtain ⟨y5, hy5⟩ := HOb2.out.cell 5 (by omega)
  obtain ⟨y6, hy6⟩ := HOb2.out.cell 6 (by omega)
  clear hct2 hb2 k1 hz1
  go_wp2
  have HP : Hid (OwnBlk (w2.setCell ⟨w.heap.size, 5, none⟩ (.slice a2 n2 d2)) (w.heap.size + 1) 30 7) := HOb2.out.sc_other (by omega) 5 _
  have r : ∀ j, j < 7 → ((((((((w2.setCell ⟨w.heap.size, 5, none⟩ (.slice a2 n2 d2)).setCell ⟨w.heap.size + 1, 0, none⟩ (.string o.kind)).setCell ⟨w.heap.size + 1, 1, none⟩ (.string o.name)).setCell ⟨w.heap.size + 1, 2, none⟩ (.string o.team)).setCell ⟨w.heap.size + 1, 3, none⟩ (.slice a1 n1 d1)).setCell ⟨w.heap.size + 1, 4, none⟩ (.bool o.ending)).setCell ⟨w.heap.size + 1, 5, none⟩ (.slice a2 n2 d2)).setCell ⟨w.heap.size + 1, 6, none⟩ (.int .i64 o.version)).cell? ⟨w.heap.size + 1, 0 + (0 + j), none⟩ = ([.string o.kind, .string o.name, .string o.team, .slice a1 n1 d1, .bool o.ending, .slice a2 n2 d2, .int .i64 o.version] : List Value)[j]? := fun j hj => puts_at 0 [.string o.kind, .string o.name, .string o.team, .slice a1 n1 d1, .bool o.ending, .slice a2 n2 d2, .int .i64 o.version] (w2.setCell ⟨w.heap.size, 5, none⟩ (.slice a2 n2 d2)) 0 HP.out (by simp) j (by simpa using hj)
  have r0 : ((((((((w2.setCell ⟨w.heap.size, 5, none⟩ (.slice a2 n2 d2)).setCell ⟨w.heap.size + 1, 0, none⟩ (.string o.kind)).setCell ⟨w.heap.size + 1, 1, none⟩ (.string o.name)).setCell ⟨w.heap.size + 1, 2, none⟩ (.string o.team)).setCell ⟨w.heap.size + 1, 3, none⟩ (.slice a1 n1 d1)).setCell ⟨w.heap.size + 1, 4, none⟩ (.bool o.ending)).setCell ⟨w.heap.size + 1, 5, none⟩ (.slice a2 n2 d2)).setCell ⟨w.heap.size + 1, 6, none⟩ (.int .i64 o.version)).cell? ⟨w.heap.size + 1, 0, none⟩ = some (.string o.kind) := r 0 (by omega)
  have r1 : ((((((((w2.setCell ⟨w.heap.size, 5, none⟩ (.slice a2 n2 d2)).setCell ⟨w.heap.size + 1, 0, none⟩ (.string o.kind)).setCell ⟨w.heap.size + 1, 1, none⟩ (.string o.name)).setCell ⟨w.heap.size + 1, 2, none⟩ (.string o.team)).setCell ⟨w.heap.size + 1, 3, none⟩ (.slice a1 n1 d1)).setCell ⟨w.heap.size + 1, 4, none⟩ (.bool o.ending)).setCell ⟨w.heap.size + 1, 5, none⟩ (.slice a2 n2 d2)).setCell ⟨w.heap.size + 1, 6, none⟩ (.int .i64 o.version)).cell? ⟨w.heap.size + 1, 1, none⟩ = some (.string o.name) := r 1 (by omega)
  have r2 : ((((((((w2.setCell ⟨w.heap.size, 5, none⟩ (.slice a2 n2 d2)).setCell ⟨w.heap.size + 1, 0, none⟩ (.string o.kind)).setCell ⟨w.heap.size + 1, 1, none⟩ (.string o.name)).setCell ⟨w.heap.size + 1, 2, none⟩ (.string o.team)).setCell ⟨w.heap.size + 1, 3, none⟩ (.slice a1 n1 d1)).setCell ⟨w.heap.size + 1, 4, none⟩ (.bool o.ending)).setCell ⟨w.heap.size + 1, 5, none⟩ (.slice a2 n2 d2)).setCell ⟨w.heap.size + 1, 6, none⟩ (.int .i64 o.version)).cell? ⟨w.heap.size + 1, 2, none⟩ = some (.string o.team) := r 2 (by omega)
  have r3 : ((((((((w2.setCell ⟨w.heap.size, 5, none⟩ (.slice a2 n2 d2)).setCell ⟨w.heap.size + 1, 0, none⟩ (.string o.kind)).setCell ⟨w.heap.size + 1, 1, none⟩ (.string o.name)).setCell ⟨w.heap.size + 1, 2, none⟩ (.string o.team)).setCell ⟨w.heap.size + 1, 3, none⟩ (.slice a1 n1 d1)).setCell ⟨w.heap.size + 1, 4, none⟩ (.bool o.ending)).setCell ⟨w.heap.size + 1, 5, none⟩ (.slice a2 n2 d2)).setCell ⟨w.heap.size + 1, 6, none⟩ (.int .i64 o.version)).cell? ⟨w.heap.size + 1, 3, none⟩ = some (.slice a1 n1 d1) := r 3 (by omega)
  have r4 : ((((((((w2.setCell ⟨w.heap.size, 5, none⟩ (.slice a2 n2 d2)).setCell ⟨w.heap.size + 1, 0, none⟩ (.string o.kind)).setCell ⟨w.heap.size + 1, 1, none⟩ (.string o.name)).setCell ⟨w.heap.size + 1, 2, none⟩ (.string o.team)).setCell ⟨w.heap.size + 1, 3, none⟩ (.slice a1 n1 d1)).setCell ⟨w.heap.size + 1, 4, none⟩ (.bool o.ending)).setCell ⟨w.heap.size + 1, 5, none⟩ (.slice a2 n2 d2)).setCell ⟨w.heap.size + 1, 6, none⟩ (.int .i64 o.version)).cell? ⟨w.heap.size + 1, 4, none⟩ = some (.bool o.ending) := r 4 (by omega)
  have r5 : ((((((((w2.setCell ⟨w.heap.size, 5, none⟩ (.slice a2 n2 d2)).setCell ⟨w.heap.size + 1, 0, none⟩ (.string o.kind)).setCell ⟨w.heap.size + 1, 1, none⟩ (.string o.name)).setCell ⟨w.heap.size + 1, 2, none⟩ (.string o.team)).setCell ⟨w.heap.size + 1, 3, none⟩ (.slice a1 n1 d1)).setCell ⟨w.heap.size + 1, 4, none⟩ (.bool o.ending)).setCell ⟨w.heap.size + 1, 5, none⟩ (.slice a2 n2 d2)).setCell ⟨w.heap.size + 1, 6, none⟩ (.int .i64 o.version)).cell? ⟨w.heap.size + 1, 5, none⟩ = some (.slice a2 n2 d2) := r 5 (by omega)
  have r6 : ((((((((w2.setCell ⟨w.heap.size, 5, none⟩ (.slice a2 n2 d2)).setCell ⟨w.heap.size + 1, 0, none⟩ (.string o.kind)).setCell ⟨w.heap.size + 1, 1, none⟩ (.string o.name)).setCell ⟨w.heap.size + 1, 2, none⟩ (.string o.team)).setCell ⟨w.heap.size + 1, 3, none⟩ (.slice a1 n1 d1)).setCell ⟨w.heap.size + 1, 4, none⟩ (.bool o.ending)).setCell ⟨w.heap.size + 1, 5, none⟩ (.slice a2 n2 d2)).setCell ⟨w.heap.size + 1, 6, none⟩ (.int .i64 o.version)).cell? ⟨w.heap.size + 1, 6, none⟩ = some (.int .i64 o.version) := r 6 (by omega)
  have hct : ∀ {lo hi : Nat} {v : Value} {ss : List ByteArray}, CT w2 lo hi v ss → w.heap.size + 1 < lo → CT ((((((((w2.setCell ⟨w.heap.size, 5, none⟩ (.slice a2 n2 d2)).setCell ⟨w.heap.size + 1, 0, none⟩ (.string o.kind)).setCell ⟨w.heap.size + 1, 1, none⟩ (.string o.name)).setCell ⟨w.heap.size + 1, 2, none⟩ (.string o.team)).setCell ⟨w.heap.size + 1, 3, none⟩ (.slice a1 n1 d1)).setCell ⟨w.heap.size + 1, 4, none⟩ (.bool o.ending)).setCell ⟨w.heap.size + 1, 5, none⟩ (.slice a2 n2 d2)).setCell ⟨w.heap.size + 1, 6, none⟩ (.int .i64 o.version)) lo hi v ss := fun h hlo => (((((((h.sc (Or.inl (by omega)) _ _).sc (Or.inl hlo) _ _).sc (Or.inl hlo) _ _).sc (Or.inl hlo) _ _).sc (Or.inl hlo) _ _).sc (Or.inl hlo) _ _).sc (Or.inl hlo) _ _).sc (Or.inl hlo) _ _
  have hsz : ((((((((w2.setCell ⟨w.heap.size, 5, none⟩ (.slice a2 n2 d2)).setCell ⟨w.heap.size + 1, 0, none⟩ (.string o.kind)).setCell ⟨w.heap.size + 1, 1, none⟩ (.string o.name)).setCell ⟨w.heap.size + 1, 2, none⟩ (.string o.team)).setCell ⟨w.heap.size + 1, 3, none⟩ (.slice a1 n1 d1)).setCell ⟨w.heap.size + 1, 4, none⟩ (.bool o.ending)).setCell ⟨w.heap.size + 1, 5, none⟩ (.slice a2 n2 d2)).setCell ⟨w.heap.size + 1, 6, none⟩ (.int .i64 o.version)).heap.size = w2.heap.size := by simp [World.setCell]
  refine bodyPost_ret (v := .agg #[.string o.kind, .string o.name, .string o.team, .slice a1 n1 d1, .bool o.ending, .slice a2 n2 d2, .int .i64 o.version]) (by simp only [results, Tryz.results29]; simp [go_sem, r0, r1, r2, r3, r4, r5, r6]) rfl ⟨⟨_, _, _, _, _, _, w1.heap.size, rfl, (hct HC2.out.1 (by omega)).mono (by omega) (Nat.le_refl _), ?_, by omega, ?_⟩, ?_⟩
  · rw [hsz]; exact hct HC2.out.2.1 (by omega)
  · rw [hsz]; exact HC2.out.2.2
  · exact puts_below (a := w) 0 (B := w.heap.size + 1) (by omega) [.string o.kind, .string o.name, .string o.team, .slice a1 n1 d1, .bool o.ending, .slice a2 n2 d2, .int .i64 o.version] (w2.setCell ⟨w.heap.size, 5, none⟩ (.slice a2 n2 d2)) 0 (HB2.out.setCell (p := ⟨w.heap.size, 5, none⟩) (Nat.le_refl _) _)
end Go.Proofs.YtfdahoekjpobaaaGreat
