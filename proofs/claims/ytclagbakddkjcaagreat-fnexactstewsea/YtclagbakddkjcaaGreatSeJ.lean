/-
  The sea: what an event does; what is kept; the end of l17Sea.
-/
import Derived.Test.YtclagbakddkjcaaGreatSeI
namespace Go.Proofs.YtclagbakddkjcaaGreat
open Go.RowKit Go.Deep

/-- An event. -/
structure Ev where
  kind : Int
  sv : Sv
  nm : ByteArray
  num : Int
  flag : Bool
def failC (c : Cp) (v : Int) : Cp := ⟨c.svc, c.num, v, c.image, 4, c.ending, c.berth⟩
def loadS (s : Sv) (v ld : Int) : Sv := ⟨s.nm, v, s.gone, s.image, s.want, s.down, s.over, s.next, s.per, s.least, s.most, ld, s.cool⟩
def awayFrom (l : List Cp) (nm : ByteArray) : List Cp := l.filter fun c => !same c.berth nm
/-- The code of an event by itself. -/
def seaC (K : SBk) (E : Ev) : Int :=
  if E.kind = 1 then 0 else if E.kind = 2 then 0
  else if E.kind = 3 then (if cpIx K.cps E.nm E.num < 0 then 3 else if (cpGet K.cps (cpIx K.cps E.nm E.num)).state = 3 ∨ (cpGet K.cps (cpIx K.cps E.nm E.num)).state = 2 then 0 else 3)
  else if E.kind = 4 then (if btIx K.bts E.nm < 0 then 3 else 0)
  else if E.kind = 5 then 0
  else if E.kind = 6 then (if svIx K.svcs E.nm < 0 then 3 else if (svGet K.svcs (svIx K.svcs E.nm)).per = 0 then 3 else 0)
  else 4
/-- The book behind it. -/
def seaK (K : SBk) (E : Ev) : SBk :=
  if E.kind = 1 then ⟨K.now + 1, K.svcs, tickOf K (K.now + 1), K.bts⟩
  else if E.kind = 2 then ⟨K.now + 1, wishOf K.svcs E.sv (K.now + 1), K.cps, K.bts⟩
  else if E.kind = 3 then ⟨K.now + 1, K.svcs, K.cps.set (cpIx K.cps E.nm E.num).toNat (failC (cpGet K.cps (cpIx K.cps E.nm E.num)) (K.now + 1)), K.bts⟩
  else if E.kind = 4 then ⟨K.now + 1, K.svcs, awayFrom K.cps E.nm, K.bts.take (btIx K.bts E.nm).toNat ++ K.bts.drop ((btIx K.bts E.nm).toNat + 1)⟩
  else if E.kind = 5 then ⟨K.now + 1, K.svcs, K.cps, raiseOf K.bts E.nm E.flag⟩
  else ⟨K.now + 1, K.svcs.set (svIx K.svcs E.nm).toNat (loadS (svGet K.svcs (svIx K.svcs E.nm)) (K.now + 1) E.num), K.cps, K.bts⟩
def seaR (K : SBk) (E : Ev) : SBk := if seaC K E = 0 then seaK K E else K

theorem puts_lo {lo B : Nat} {a : World} (o : Nat) (hB : lo ≤ B) : ∀ (vs : List Value) (w : World) (i : Nat), Below lo a w → Below lo a (puts w B o i vs)
  | [], _, _, h => h
  | x :: vs, w, i, h => by
    rw [puts]
    exact puts_lo o hB vs _ (i + 1) (h.setCell (p := ⟨B, _, none⟩) (by show lo ≤ B; exact hB) x)

/-- Books' variables are as they were. -/
def Keep (w W : World) : Prop := ∀ (q : Nat) (cs : Array Value), w.heap[q]? = some (.cells cs 37 (0, 0)) → W.heap[q]? = some (.cells cs 37 (0, 0))
theorem Keep.later {w W W' : World} (h : Keep w W) (hb : Below W.heap.size W W') : Keep w W' := fun q cs e => (hb.block q (lt_heap (h q cs e))).trans (h q cs e)
theorem Keep.new {w W : World} {p : Nat} (h : Keep w W) (hp : w.heap.size ≤ p) (o : Nat) (x : Value) : Keep w (W.setCell ⟨p, o, none⟩ x) := fun q cs e =>
  (Below.heap_setCell W ⟨p, o, none⟩ x q (by show q ≠ p; have := lt_heap e; omega)).trans (h q cs e)
theorem Keep.else {w W : World} {g : Nat} {cur : Array Value} {e : TypeId} (h : Keep w W) (hg : W.heap[g]? = some (.cells cur e (0, 0))) (hne : 37 ≠ e) (o : Nat) (x : Value) : Keep w (W.setCell ⟨g, o, none⟩ x) := fun q cs e' => heap_else (h q cs e') hg hne o x
theorem puts_keep {B : Nat} {a : World} (o : Nat) (hB : a.heap.size ≤ B) : ∀ (vs : List Value) (w : World) (i : Nat), Keep a w → Keep a (puts w B o i vs)
  | [], _, _, h => h
  | x :: vs, w, i, h => by
    rw [puts]
    exact puts_keep o hB vs _ (i + 1) (h.new hB _ x)

/-- What is kept beside the book. -/
structure EI (lo : Nat) (w W : World) (E : Ev) : Prop where
  bel : Below lo w W
  ev : W.heap[w.heap.size + 1]? = some (.cells #[.int .i64 E.kind, .string E.sv.nm, .int .i64 E.sv.ver, .bool E.sv.gone, .int .i64 E.sv.image, .int .i64 E.sv.want, .int .i64 E.sv.down, .int .i64 E.sv.over, .int .i64 E.sv.next, .int .i64 E.sv.per, .int .i64 E.sv.least, .int .i64 E.sv.most, .int .i64 E.sv.load, .int .i64 E.sv.cool, .string E.nm, .int .i64 E.num, .bool E.flag] 43 (0, 0))
  own : OwnBlk W (w.heap.size + 2) 37 4
  keep : Keep w W
theorem EI.later {lo : Nat} {w W W' : World} {E : Ev} (h : EI lo w W E) (hlo : lo ≤ w.heap.size) (hb : Below W.heap.size W W') : EI lo w W' E :=
  ⟨h.bel.trans (hb.mono (Nat.le_trans hlo h.bel.size)), (hb.block _ (lt_heap h.ev)).trans h.ev, h.own.later hb, h.keep.later hb⟩
theorem EI.bk {lo : Nat} {w W : World} {E : Ev} (h : EI lo w W E) (hlo : lo ≤ w.heap.size) (o : Nat) (x : Value) : EI lo w (W.setCell ⟨w.heap.size, o, none⟩ x) E :=
  ⟨h.bel.setCell (p := ⟨w.heap.size, o, none⟩) hlo x, (Below.heap_setCell W ⟨w.heap.size, o, none⟩ x _ (by show w.heap.size + 1 ≠ w.heap.size; omega)).trans h.ev, h.own.sc_other (by omega) o x, h.keep.new (Nat.le_refl _) o x⟩
theorem EI.row {lo g : Nat} {w W : World} {E : Ev} {cur : Array Value} {e : TypeId} (h : EI lo w W E) (hlo : lo ≤ g) (hg : W.heap[g]? = some (.cells cur e (0, 0))) (h1 : 43 ≠ e) (h2 : 37 ≠ e) (o : Nat) (x : Value) : EI lo w (W.setCell ⟨g, o, none⟩ x) E := by
  obtain ⟨cs, q1, q2⟩ := h.own
  exact ⟨h.bel.setCell (p := ⟨g, o, none⟩) hlo x, heap_else h.ev hg h1 o x, ⟨cs, heap_else q1 hg h2 o x, q2⟩, h.keep.else hg h2 o x⟩
theorem EI.belx {lo : Nat} {w R W : World} {E : Ev} (h : EI lo w R E) (hlo : lo ≤ w.heap.size) (hx : BelX w.heap.size R W) : EI lo w W E := by
  obtain ⟨hb, he, ⟨cs, q1, q2⟩, hk⟩ := h
  refine ⟨⟨hx.os.trans hb.os, hx.tape.trans hb.tape, hx.output.trans hb.output, Nat.le_trans hb.size hx.size, fun q hq => (hx.block q ?_ (by omega)).trans (hb.block q hq)⟩, (hx.block _ (lt_heap he) (by omega)).trans he, ⟨cs, (hx.block _ (lt_heap q1) (by omega)).trans q1, q2⟩, fun q ds e => (hx.block q (lt_heap (hk q ds e)) (by have := lt_heap e; omega)).trans (hk q ds e)⟩
  have := hb.size
  omega
theorem EI.at_ {lo : Nat} {w W : World} {E : Ev} (h : EI lo w W E) (j : Nat) (v : Value) (hv : (#[.int .i64 E.kind, .string E.sv.nm, .int .i64 E.sv.ver, .bool E.sv.gone, .int .i64 E.sv.image, .int .i64 E.sv.want, .int .i64 E.sv.down, .int .i64 E.sv.over, .int .i64 E.sv.next, .int .i64 E.sv.per, .int .i64 E.sv.least, .int .i64 E.sv.most, .int .i64 E.sv.load, .int .i64 E.sv.cool, .string E.nm, .int .i64 E.num, .bool E.flag] : Array Value)[j]? = some v) : W.cell? ⟨w.heap.size + 1, j, none⟩ = some v := by
  simp only [World.cell?, h.ev]
  exact hv
theorem EI.res {lo : Nat} {w W : World} {E : Ev} (h : EI lo w W E) (hlo : lo ≤ w.heap.size) (o : Nat) (x : Value) : EI lo w (W.setCell ⟨w.heap.size + 2, o, none⟩ x) E :=
  ⟨h.bel.setCell (p := ⟨w.heap.size + 2, o, none⟩) (by show lo ≤ w.heap.size + 2; omega) x, (Below.heap_setCell W ⟨w.heap.size + 2, o, none⟩ x _ (by show w.heap.size + 1 ≠ w.heap.size + 2; omega)).trans h.ev, h.own.setCell o x, h.keep.new (Nat.le_add_right _ 2) o x⟩
/-- Four cells put into a book's variable. -/
theorem bk4 {W : World} {px : Nat} {a b c d : Value} {e : TypeId} (h : W.heap[px]? = some (.cells #[a, b, c, d] e (0, 0))) (v0 v1 v2 v3 : Value) : ((((W.setCell ⟨px, 0, none⟩ v0).setCell ⟨px, 1, none⟩ v1).setCell ⟨px, 2, none⟩ v2).setCell ⟨px, 3, none⟩ v3).heap[px]? = some (.cells #[v0, v1, v2, v3] e (0, 0)) := by
  rw [heap_setCell_same _ px 3 _ _ _ (heap_setCell_same _ px 2 _ _ _ (heap_setCell_same _ px 1 _ _ _ (heap_setCell_same W px 0 _ _ _ h)))]
  rfl
theorem owns_bk4 {W : World} {px lo : Nat} {a b c d : Value} {e' e : TypeId} {size : Nat} {v : Value} {n : Nat} {xs : List Value} (ho : W.ownsRow lo e size v n xs) (h : W.heap[px]? = some (.cells #[a, b, c, d] e' (0, 0))) (hne : e ≠ e') (v0 v1 v2 v3 : Value) : ((((W.setCell ⟨px, 0, none⟩ v0).setCell ⟨px, 1, none⟩ v1).setCell ⟨px, 2, none⟩ v2).setCell ⟨px, 3, none⟩ v3).ownsRow lo e size v n xs := by
  have h0 := heap_setCell_same W px 0 _ _ v0 h
  have h1 := heap_setCell_same _ px 1 _ _ v1 h0
  have h2 := heap_setCell_same _ px 2 _ _ v2 h1
  exact owns_else (owns_else (owns_else (owns_else ho h hne 0 v0) h0 hne 1 v1) h1 hne 2 v2) h2 hne 3 v3
theorem EI.bk4 {lo : Nat} {w W : World} {E : Ev} (h : EI lo w W E) (hlo : lo ≤ w.heap.size) (v0 v1 v2 v3 : Value) : EI lo w ((((W.setCell ⟨w.heap.size, 0, none⟩ v0).setCell ⟨w.heap.size, 1, none⟩ v1).setCell ⟨w.heap.size, 2, none⟩ v2).setCell ⟨w.heap.size, 3, none⟩ v3) E :=
  (((h.bk hlo 0 v0).bk hlo 1 v1).bk hlo 2 v2).bk hlo 3 v3
def noK : SBk := ⟨0, [], [], []⟩
theorem small_ok {K : SBk} (h : sbOk K = true) : K.svcs.length ≤ 8 ∧ K.cps.length ≤ 200 ∧ K.bts.length ≤ 6 := by
  simp only [sbOk, Bool.and_eq_true, decide_eq_true_eq] at h
  omega
/-- A book in rows of one's own. -/
structure BkOwn (W : World) (lo : Nat) (R : SBk) (s0 s1 s2 : Value) : Prop where
  o0 : W.ownsRow lo 41 13 s0 R.svcs.length (R.svcs.flatMap SvC)
  o1 : W.ownsRow lo 81 7 s1 R.cps.length (R.cps.flatMap CpC)
  o2 : W.ownsRow lo 79 2 s2 R.bts.length (R.bts.flatMap BtC)
  z0 : ∀ i, i < R.svcs.length → (R.svcs.getD i Sv.none).sized
  z1 : ∀ i, i < R.cps.length → (R.cps.getD i Cp.none).sized
  z2 : ∀ i, i < R.bts.length → (R.bts.getD i Bt.none).sized
  sm : R.small
theorem BkOwn.later {W W' : World} {lo : Nat} {R : SBk} {s0 s1 s2 : Value} (h : BkOwn W lo R s0 s1 s2) (hb : Below W.heap.size W W') : BkOwn W' lo R s0 s1 s2 :=
  ⟨owns_on h.o0 hb, owns_on h.o1 hb, owns_on h.o2 hb, h.z0, h.z1, h.z2, h.sm⟩
theorem BkOwn.lo {W : World} {lo lo' : Nat} {R : SBk} {s0 s1 s2 : Value} (h : BkOwn W lo R s0 s1 s2) (hl : lo' ≤ lo) : BkOwn W lo' R s0 s1 s2 :=
  ⟨owns_lo h.o0 hl, owns_lo h.o1 hl, owns_lo h.o2 hl, h.z0, h.z1, h.z2, h.sm⟩
/-- A store into a book's variable. -/
theorem BkOwn.sc {W : World} {lo p : Nat} {R : SBk} {s0 s1 s2 : Value} {cs : Array Value} (h : BkOwn W lo R s0 s1 s2) (hp : W.heap[p]? = some (.cells cs 37 (0, 0))) (o : Nat) (x : Value) : BkOwn (W.setCell ⟨p, o, none⟩ x) lo R s0 s1 s2 :=
  ⟨owns_else h.o0 hp t_sk o x, owns_else h.o1 hp (fun e => t_kc e.symm) o x, owns_else h.o2 hp t_bk o x, h.z0, h.z1, h.z2, h.sm⟩
theorem BkOwn.v {W : World} {lo : Nat} {R : SBk} {s0 s1 s2 : Value} (h : BkOwn W lo R s0 s1 s2) : ∃ a0 a1 a2 c0 c1 c2, s0 = .slice a0 R.svcs.length c0 ∧ s1 = .slice a1 R.cps.length c1 ∧ s2 = .slice a2 R.bts.length c2 ∧ SBkV W a0 a1 a2 R := by
  obtain ⟨m0, m1, m2⟩ := h.sm
  obtain ⟨a0, c0, e0, v0⟩ := owns_Svs h.o0 h.z0 (by unfold maxLen; omega)
  obtain ⟨a1, c1, e1, v1⟩ := owns_Cps h.o1 h.z1 (by unfold maxLen; omega)
  obtain ⟨a2, c2, e2, v2⟩ := owns_Bts h.o2 h.z2 (by unfold maxLen; omega)
  exact ⟨a0, a1, a2, c0, c1, c2, e0, e1, e2, v0, v1, v2⟩
theorem noOwn (W : World) (lo : Nat) : BkOwn W lo noK (.slice none 0 0) (.slice none 0 0) (.slice none 0 0) :=
  ⟨⟨rfl, .inl ⟨rfl, rfl⟩⟩, ⟨rfl, .inl ⟨rfl, rfl⟩⟩, ⟨rfl, .inl ⟨rfl, rfl⟩⟩, fun i hi => absurd hi (Nat.not_lt_zero i), fun i hi => absurd hi (Nat.not_lt_zero i), fun i hi => absurd hi (Nat.not_lt_zero i), Nat.zero_le _, Nat.zero_le _, Nat.zero_le _⟩
theorem SBkV.z {w : World} {a0 a1 a2 : Option Addr} {K : SBk} (h : SBkV w a0 a1 a2 K) : (∀ i, i < K.svcs.length → (K.svcs.getD i Sv.none).sized) ∧ (∀ i, i < K.cps.length → (K.cps.getD i Cp.none).sized) ∧ (∀ i, i < K.bts.length → (K.bts.getD i Bt.none).sized) :=
  ⟨fun i hi => by obtain ⟨_, _, _, _, hf⟩ := h.s.at_ i hi; exact hf.sized, fun i hi => by obtain ⟨_, _, _, _, hf⟩ := h.c.at_ i hi; exact hf.sized, fun i hi => by obtain ⟨_, _, _, _, hf⟩ := h.b.at_ i hi; exact hf.sized⟩

theorem XI.own {lo px : Nat} {W : World} {now : Int} {sv : List Sv} {cp : List Cp} {bt : List Bt} {p0 p1 p2 : Option Addr} {n0 n1 n2 q0 q1 q2 : Nat} (h : XI lo px W now sv cp bt p0 p1 p2 n0 n1 n2 q0 q1 q2) : BkOwn W lo ⟨now, sv, cp, bt⟩ (.slice p0 n0 q0) (.slice p1 n1 q1) (.slice p2 n2 q2) := by
  obtain ⟨_, o0, o1, o2, rfl, rfl, rfl, z0, z1, z2, m0, m1, m2⟩ := h
  exact ⟨o0, o1, o2, z0, z1, z2, m0, m1, m2⟩
/-- What is asked of the end. -/
def SeaQ (K : SBk) (E : Ev) (lo : Nat) (w : World) : Exit → Act → World → Prop := bodyPost Tryz.prog Tryz.f20 fun e w' =>
  (∃ s0 s1 s2, e = .returned (.tuple #[.agg #[.int .i64 (seaR K E).now, s0, s1, s2], .int .i64 (seaC K E)]) ∧ BkOwn w' lo (seaR K E) s0 s1 s2) ∧ Below lo w w' ∧ Keep w w'
theorem XI.res {lo : Nat} {w W : World} {E : Ev} {now : Int} {sv : List Sv} {cp : List Cp} {bt : List Bt} {p0 p1 p2 : Option Addr} {n0 n1 n2 q0 q1 q2 : Nat} (h : XI lo w.heap.size W now sv cp bt p0 p1 p2 n0 n1 n2 q0 q1 q2) (he : EI lo w W E) (o : Nat) (x : Value) : XI lo w.heap.size (W.setCell ⟨w.heap.size + 2, o, none⟩ x) now sv cp bt p0 p1 p2 n0 n1 n2 q0 q1 q2 := by
  obtain ⟨cs, q1, q2⟩ := he.own
  have ne : ∀ {e : TypeId} {s n q : Nat} {p : Option Addr} {xs : List Value}, W.ownsRow lo e s (.slice p n q) n xs → e ≠ 37 → ∀ g, p = some ⟨g, 0, none⟩ → g ≠ w.heap.size + 2 := by
    intro e s n q p xs ho hne g hg e2
    subst e2
    rcases ho.2 with ⟨hv, _⟩ | ⟨g2, _, cur, hv, _, hb, _⟩
    · cases hv; cases hg
    · cases hv
      cases hg
      rw [q1] at hb
      injection hb with hb
      injection hb with _ hb _
      exact hne hb.symm
  exact h.scA (by omega) (ne h.o0 t_sk) (ne h.o1 (fun e => t_kc e.symm)) (ne h.o2 t_bk) o x

set_option maxRecDepth 8000 in
set_option maxHeartbeats 8000000 in
theorem sea3 (K : SBk) (E : Ev) (lo : Nat) (w : World) (hlo : lo ≤ w.heap.size) (v : Int) (now : Int) (sv : List Sv) (cp : List Cp) (bt : List Bt) (p0 p1 p2 : Option Addr) (n0 n1 n2 q0 q1 q2 : Nat) (W : World) (HEW : Hid (EI lo w W E)) (HX : Hid (XI lo w.heap.size W now sv cp bt p0 p1 p2 n0 n1 n2 q0 q1 q2)) (HR : Hid (seaC K E = 0 ∧ seaK K E = ⟨v, sv, cp, bt⟩)) (u0 u1 u5 u7 u8 u9 u10 u11 u12 u13 u14 u15 u16 u17 u18 u19 u20 u21 u22 u23 u24 u25 u26 u27 u28 u29 u30 u31 u32 u33 u34 u35 u36 u37 u38 u39 u40 u41 u42 u43 u44 u45 u46 u47 u48 u49 u50 u51 u52 u53 u54 u55 u56 u57 u58 u59 u60 u61 u62 u63 u64 u65 u66 u67 u68 u69 u70 u71 u72 u73 u74 u75 u76 u77 u78 u79 u80 u81 u82 u83 u84 u85 u86 u87 u88 u89 u90 u91 u92 u93 u94 u95 u96 u97 u98 u99 u100 u101 u102 u103 u104 u105 u106 u107 u108 u109 u110 u111 u112 u113 u114 u115 u116 u117 u118 u119 u120 u121 u122 u123 u124 u125 u126 u127 u128 u129 u130 u131 u132 u133 u134 u135 u136 u137 u138 u139 u140 u141 u142 u143 u144 u145 u146 u147 u148 u149 u150 u151 u152 u153 u154 u155 u156 u157 u158 u159 u160 : Value) :
    Code.wp Tryz.prog sa3 (SeaQ K E lo w) { tmps := #[u0, u1, .pointer (some ⟨w.heap.size, 0, none⟩), .pointer (some ⟨w.heap.size + 1, 0, none⟩), .pointer (some ⟨w.heap.size + 1 + 1, 0, none⟩), u5, .int .i64 v, u7, u8, u9, u10, u11, u12, u13, u14, u15, u16, u17, u18, u19, u20, u21, u22, u23, u24, u25, u26, u27, u28, u29, u30, u31, u32, u33, u34, u35, u36, u37, u38, u39, u40, u41, u42, u43, u44, u45, u46, u47, u48, u49, u50, u51, u52, u53, u54, u55, u56, u57, u58, u59, u60, u61, u62, u63, u64, u65, u66, u67, u68, u69, u70, u71, u72, u73, u74, u75, u76, u77, u78, u79, u80, u81, u82, u83, u84, u85, u86, u87, u88, u89, u90, u91, u92, u93, u94, u95, u96, u97, u98, u99, u100, u101, u102, u103, u104, u105, u106, u107, u108, u109, u110, u111, u112, u113, u114, u115, u116, u117, u118, u119, u120, u121, u122, u123, u124, u125, u126, u127, u128, u129, u130, u131, u132, u133, u134, u135, u136, u137, u138, u139, u140, u141, u142, u143, u144, u145, u146, u147, u148, u149, u150, u151, u152, u153, u154, u155, u156, u157, u158, u159, u160], defers := [] } W := by
  unfold SeaQ
  rw [sa3_r]
  simp only [sa3, sa2, sa1, sa0, Tryz.f20, Option.getD_some, sfst_seq, ssnd_seq]
  obtain ⟨w2, hw2⟩ : ∃ w2, w2 = W.setCell ⟨w.heap.size, 0, none⟩ (.int .i64 v) := ⟨_, rfl⟩
  have hb := HX.out.bx
  have hp2 : w2.heap[w.heap.size]? = some (.cells #[.int .i64 v, .slice p0 n0 q0, .slice p1 n1 q1, .slice p2 n2 q2] 37 (0, 0)) := by rw [hw2, heap_setCell_same W w.heap.size 0 _ _ _ hb]; rfl
  have HX2 : Hid (XI lo w.heap.size w2 v sv cp bt p0 p1 p2 n0 n1 n2 q0 q1 q2) := by
    refine ⟨hp2, ?_, ?_, ?_, HX.out.l0, HX.out.l1, HX.out.l2, HX.out.z0, HX.out.z1, HX.out.z2, HX.out.m0, HX.out.m1, HX.out.m2⟩
    · rw [hw2]; exact owns_else HX.out.o0 hb t_sk _ _
    · rw [hw2]; exact owns_else HX.out.o1 hb (fun e => t_kc e.symm) _ _
    · rw [hw2]; exact owns_else HX.out.o2 hb t_bk _ _
  have HEw2 : Hid (EI lo w w2 E) := by show EI _ _ _ _; rw [hw2]; exact HEW.out.bk hlo _ _
  have pxz : w.heap.size < W.heap.size := lt_heap hb
  have pxf : ∀ j, W.frozen? ⟨w.heap.size, j, none⟩ = false := fun j => by simp [World.frozen?, hb]
  have c0' : W.cell? ⟨w.heap.size, 0, none⟩ = some (.int .i64 now) := by simp [World.cell?, hb]
  go_upto_region 35 with fail
  rw [← hw2]
  clear hw2 pxz pxf c0' hb
  obtain ⟨yz, y0, y1, y2, y3⟩ := HX2.out.at_
  clear hp2
  have hfz := HEw2.out.own.frozen
  have hz := HEw2.out.own.lt
  obtain ⟨r0, k0⟩ := HEw2.out.own.cell 0 (by omega)
  obtain ⟨r1, k1⟩ := HEw2.out.own.cell 1 (by omega)
  obtain ⟨r2, k2⟩ := HEw2.out.own.cell 2 (by omega)
  obtain ⟨r3, k3⟩ := HEw2.out.own.cell 3 (by omega)
  go_wp2
  have p := fun i hi => puts_at 0 [.int .i64 v, .slice p0 n0 q0, .slice p1 n1 q1, .slice p2 n2 q2] w2 0 HEw2.out.own (by simp) i hi
  have t0 := p 0 (by simp)
  have t1 := p 1 (by simp)
  have t2 := p 2 (by simp)
  have t3 := p 3 (by simp)
  simp only [puts, Nat.add_zero, Nat.zero_add, Nat.reduceAdd, List.getElem?_cons_zero, List.getElem?_cons_succ] at t0 t1 t2 t3
  have hbl := puts_lo 0 (B := w.heap.size + 2) (Nat.le_trans hlo (Nat.le_add_right _ 2)) [.int .i64 v, .slice p0 n0 q0, .slice p1 n1 q1, .slice p2 n2 q2] w2 0 HEw2.out.bel
  have hkp := puts_keep 0 (B := w.heap.size + 2) (Nat.le_add_right _ 2) [.int .i64 v, .slice p0 n0 q0, .slice p1 n1 q1, .slice p2 n2 q2] w2 0 HEw2.out.keep
  refine bodyPost_ret (v := .tuple #[.agg #[.int .i64 v, .slice p0 n0 q0, .slice p1 n1 q1, .slice p2 n2 q2], .int .i64 0]) (by simp [results, go_sem, t0, t1, t2, t3]) rfl ⟨?_, hbl, hkp⟩
  have HXF : XI lo w.heap.size (puts w2 (w.heap.size + 2) 0 0 [.int .i64 v, .slice p0 n0 q0, .slice p1 n1 q1, .slice p2 n2 q2]) v sv cp bt p0 p1 p2 n0 n1 n2 q0 q1 q2 := by
    have s1 := HX2.out
    have g1 := HEw2.out
    have s2 := s1.res g1 0 (.int .i64 v)
    have g2 : EI lo w (w2.setCell ⟨w.heap.size + 2, 0, none⟩ (.int .i64 v)) E := g1.res hlo _ _
    have s3 := s2.res g2 1 (.slice p0 n0 q0)
    have g3 := g2.res hlo 1 (.slice p0 n0 q0)
    have s4 := s3.res g3 2 (.slice p1 n1 q1)
    have g4 := g3.res hlo 2 (.slice p1 n1 q1)
    exact s4.res g4 3 (.slice p2 n2 q2)
  have hR : seaR K E = ⟨v, sv, cp, bt⟩ := by unfold seaR; rw [HR.out.1, if_pos rfl, HR.out.2]
  rw [hR, HR.out.1]
  exact ⟨_, _, _, rfl, HXF.own⟩

end Go.Proofs.YtclagbakddkjcaaGreat
