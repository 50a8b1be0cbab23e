/-
  Rows of acts: equality, marks.
-/
import Derived.Test.YtamhfnlogldpaaaGreatAcR
import Derived.Test.YtamhfnlogldpaaaGreatOwV
import Derived.Test.YtamhfnlogldpaaaGreatMkBt
import Derived.Test.YtamhfnlogldpaaaGreatMemAc
import Derived.Test.YtamhfnlogldpaaaGreatCls
namespace Go.Proofs.YtamhfnlogldpaaaGreat
open Go.RowKit Go.Deep

theorem EnC_two (m : En) : (EnC m).length = 2 := rfl
theorem acsC_at : ∀ (L : List Ac) (es : List Value), es.length = L.length → ∀ i k, i < L.length → k < 8 → (acsC L es)[i * 8 + k]? = (AcC (L.getD i Ac.none) (es.getD i undef))[k]?
  | [], _, _, i, _, hi, _ => absurd hi (Nat.not_lt_zero i)
  | a :: L, [], h, _, _, _, _ => by simp at h
  | a :: L, e :: es, h, i, k, hi, hk => by
    have e0 : acsC (a :: L) (e :: es) = AcC a e ++ acsC L es := rfl
    rw [e0]
    cases i with
    | zero =>
      rw [Nat.zero_mul, Nat.zero_add, List.getElem?_append_left (by show k < 8; exact hk)]
      rfl
    | succ i =>
      rw [List.getElem?_append_right (by show 8 ≤ _; omega)]
      have : (i + 1) * 8 + k - (AcC a e).length = i * 8 + k := by show (i + 1) * 8 + k - 8 = _; omega
      rw [this, acsC_at L es (by simpa using h) i k (by simpa using hi) hk]
      simp

/-- A row of acts that lies in blocks of one's own from lo on and below hi. -/
structure RowP (W : World) (lo hi : Nat) (a : Option Addr) (b : Nat) (L : List Ac) (ae : Nat → Option Addr) (ce eb : Nat → Nat) : Prop where
  hi_ : hi ≤ W.heap.size
  a_ : 0 < L.length → a = some ⟨b, 0, none⟩ ∧ lo ≤ b ∧ b < hi ∧ ∃ m, OwnBlk W b 47 m ∧ L.length * 8 ≤ m
  cells : ∀ i, i < L.length → W.rangeAt b (i * 8) (AcC (L.getD i Ac.none) (.slice (ae i) (L.getD i Ac.none).ends.length (ce i)))
  e_ : ∀ i, i < L.length → 0 < (L.getD i Ac.none).ends.length → ae i = some ⟨eb i, 0, none⟩ ∧ lo ≤ eb i ∧ eb i < hi ∧ ∃ m, OwnBlk W (eb i) 114 m ∧ (L.getD i Ac.none).ends.length * 2 ≤ m
  ecells : ∀ i, i < L.length → ∀ t, t < (L.getD i Ac.none).ends.length → EnIs W (eb i) (t * 2) ((L.getD i Ac.none).ends.getD t En.none)
  apart : ∀ i j, i < j → j < L.length → 0 < (L.getD i Ac.none).ends.length → 0 < (L.getD j Ac.none).ends.length → eb i ≠ eb j

def blkOf (v : Value) : Nat := v.ownBlock.getD 0
def adrOf (v : Value) : Option Addr := match v with | .slice a _ _ => a | _ => none
def capOf (v : Value) : Nat := match v with | .slice _ _ c => c | _ => 0
theorem adr_is {a : Option Addr} {n c : Nat} {v : Value} (h : v = .slice a n c) : v = .slice (adrOf v) n (capOf v) := by subst h; rfl
theorem owns_own {W : World} {lo e size n : Nat} {v : Value} {xs : List Value} (h : W.ownsRow lo e size v n xs) (hn : 0 < n) : adrOf v = some ⟨blkOf v, 0, none⟩ ∧ v.ownBlock = some (blkOf v) ∧ lo ≤ blkOf v ∧ blkOf v < W.heap.size ∧ (∃ m, OwnBlk W (blkOf v) e m ∧ n * size ≤ m) ∧ ∀ j u, xs[j]? = some u → W.cell? ⟨blkOf v, j, none⟩ = some u := by
  rcases h.2 with ⟨_, h0⟩ | ⟨g, cap, cur, hv, hb, hg, h1, h2, h3, h4⟩
  · omega
  · subst hv
    have hc := owns_cells h hn
    obtain ⟨g', c', e', _, hl, hcell⟩ := hc
    injection e' with e1 _ _
    injection e1 with e1
    injection e1 with e1 _ _
    subst e1
    exact ⟨rfl, rfl, hb, hl, ⟨cur.size, ⟨cur, hg, rfl⟩, by rw [h3]; exact Nat.mul_le_mul_right _ h1⟩, hcell⟩

theorem AcsR.p {W : World} {lo : Nat} {v : Value} {L : List Ac} {es : List Value} (h : AcsR W lo v L es) : ∃ a c b ae ce eb, v = .slice a L.length c ∧ RowP W lo W.heap.size a b L ae ce eb := by
  obtain ⟨a, c, hv⟩ := owns_is h.row
  have hes : ∀ i, i < L.length → es.getD i undef = .slice (adrOf (es.getD i undef)) (L.getD i Ac.none).ends.length (capOf (es.getD i undef)) := fun i hi => by
    obtain ⟨a', c', e'⟩ := owns_is (h.ends i hi)
    exact adr_is e'
  refine ⟨a, c, blkOf v, fun i => adrOf (es.getD i undef), fun i => capOf (es.getD i undef), fun i => blkOf (es.getD i undef), hv, Nat.le_refl _, fun h0 => ?_, fun i hi => ?_, fun i hi h0 => ?_, fun i hi t ht => ?_, fun i j hij hj h0 h1 => ?_⟩
  · obtain ⟨q1, _, q3, q4, q5, _⟩ := owns_own h.row h0
    rw [hv] at q1
    exact ⟨by rw [hv]; exact q1, q3, q4, q5⟩
  · obtain ⟨_, _, _, _, _, q⟩ := owns_own h.row (by omega : 0 < L.length)
    intro k u hu
    have hk : k < 8 := by
      have := (List.getElem?_eq_some_iff.1 hu).1
      exact this
    refine q (i * 8 + k) u ?_
    rw [acsC_at L es h.len i k hi hk, hes i hi]
    exact hu
  · obtain ⟨q1, _, q3, q4, q5, _⟩ := owns_own (h.ends i hi) h0
    exact ⟨q1, q3, q4, q5⟩
  · obtain ⟨_, _, _, _, _, q⟩ := owns_own (h.ends i hi) (by omega)
    have x := fun k (hk : k < 2) u (hu : (EnC ((L.getD i Ac.none).ends.getD t En.none))[k]? = some u) => q (t * 2 + k) u ((flat_at En.none EnC 2 EnC_two (L.getD i Ac.none).ends t k ht hk).trans hu)
    exact ⟨x 0 (by omega) _ rfl, x 1 (by omega) _ rfl, trivial⟩
  · intro e
    obtain ⟨_, q, _⟩ := owns_own (h.ends i (by omega)) h0
    obtain ⟨_, q', _⟩ := owns_own (h.ends j hj) h1
    refine h.apart i j hij hj _ q ?_
    rw [q']
    have e' : blkOf (es.getD i undef) = blkOf (es.getD j undef) := e
    rw [e']

theorem range_keep {W W' : World} {b o : Nat} {cs : List Value} (h : W.rangeAt b o cs) (hc : ∀ j, W'.cell? ⟨b, j, none⟩ = W.cell? ⟨b, j, none⟩) : W'.rangeAt b o cs := fun j v hv => (hc _).trans (h j v hv)
theorem RowP.later {W W' : World} {lo hi : Nat} {a : Option Addr} {b : Nat} {L : List Ac} {ae : Nat → Option Addr} {ce eb : Nat → Nat} (h : RowP W lo hi a b L ae ce eb) (hb : Below W.heap.size W W') : RowP W' lo hi a b L ae ce eb := by
  refine ⟨Nat.le_trans h.hi_ hb.size, fun h0 => ?_, fun i hi => ?_, fun i hi h0 => ?_, fun i hi t ht => ?_, h.apart⟩
  · obtain ⟨q1, q2, q3, m, q4, q5⟩ := h.a_ h0
    exact ⟨q1, q2, q3, m, q4.later hb, q5⟩
  · obtain ⟨_, _, _, m, q4, _⟩ := h.a_ (by omega)
    exact range_keep (h.cells i hi) fun j => hb.cell (p := ⟨b, j, none⟩) q4.lt
  · obtain ⟨q1, q2, q3, m, q4, q5⟩ := h.e_ i hi h0
    exact ⟨q1, q2, q3, m, q4.later hb, q5⟩
  · obtain ⟨_, _, _, m, q4, _⟩ := h.e_ i hi (by omega)
    exact (h.ecells i hi t ht).later hb q4.lt
theorem RowP.marks {S : Nat → Prop} {W W' : World} {lo hi : Nat} {a : Option Addr} {b : Nat} {L : List Ac} {ae : Nat → Option Addr} {ce eb : Nat → Nat} (h : RowP W lo hi a b L ae ce eb) (hm : Marks S W W') (hS : ∀ p, lo ≤ p → p < hi → ¬ S p) : RowP W' lo hi a b L ae ce eb := by
  refine ⟨Nat.le_trans h.hi_ hm.size, fun h0 => ?_, fun i hi => ?_, fun i hi h0 => ?_, fun i hi t ht => ?_, h.apart⟩
  · obtain ⟨q1, q2, q3, m, q4, q5⟩ := h.a_ h0
    exact ⟨q1, q2, q3, m, hm.own _ _ _ q4, q5⟩
  · obtain ⟨_, q2, q3, m, q4, _⟩ := h.a_ (by omega)
    exact range_keep (h.cells i hi) fun j => hm.cell q4.lt (hS _ q2 q3) j
  · obtain ⟨q1, q2, q3, m, q4, q5⟩ := h.e_ i hi h0
    exact ⟨q1, q2, q3, m, hm.own _ _ _ q4, q5⟩
  · obtain ⟨_, q2, q3, m, q4, _⟩ := h.e_ i hi (by omega)
    have c := fun j => hm.cell q4.lt (hS _ q2 q3) j
    have x := h.ecells i hi t ht
    exact ⟨(c _).trans x.c0, (c _).trans x.c1, trivial⟩

/-- A row of ends, of any room. -/
structure EnsV (w : World) (a : Option Addr) (ms : List En) : Prop where
  len : ms.length ≤ 1048576
  at_ : ∀ i, i < ms.length → ∃ b, a = some ⟨b, 0, none⟩ ∧ b < w.heap.size ∧ EnIs w b (i * 2) (ms.getD i En.none)
theorem EnsV.later {w w' : World} {a : Option Addr} {ms : List En} (h : EnsV w a ms) (hb : Below w.heap.size w w') : EnsV w' a ms :=
  ⟨h.len, fun i hi => by obtain ⟨b, e, hl, hf⟩ := h.at_ i hi; exact ⟨b, e, Nat.lt_of_lt_of_le hl hb.size, hf.later hb hl⟩⟩
theorem RowP.ens {W : World} {lo hi : Nat} {a : Option Addr} {b : Nat} {L : List Ac} {ae : Nat → Option Addr} {ce eb : Nat → Nat} (h : RowP W lo hi a b L ae ce eb) {i : Nat} (hi : i < L.length) (hl : (L.getD i Ac.none).ends.length ≤ 1048576) : EnsV W (ae i) (L.getD i Ac.none).ends :=
  ⟨hl, fun t ht => by
    obtain ⟨q1, _, _, m, q4, _⟩ := h.e_ i hi (by omega)
    exact ⟨eb i, q1, q4.lt, h.ecells i hi t ht⟩⟩

set_option maxHeartbeats 2000000 in
theorem eqEnsV (a a' : Option Addr) (c c' : Nat) (ms : List En) (w : World) (h : EnsV w a ms) (h' : EnsV w a' ms) :
    Calls Tryz.prog 74 #[.slice a ms.length c, .slice a' ms.length c'] w fun e w' => e = .returned (.bool true) ∧ Below w.heap.size w w' := by
  have hl := h.len
  have HH : Hid (EnsV w a ms ∧ EnsV w a' ms) := ⟨h, h'⟩
  clear h h'
  go_enter Tryz.func74, Tryz.ntmps74
  go_wp2
  go_loopw [5] (fun i wr => ∃ k : Nat, k ≤ ms.length ∧ i = .int .i64 k ∧ Below w.heap.size w wr) (fun i _ => ms.length - (intOf i).toNat)
  case atStart => exact ⟨0, Nat.zero_le _, rfl, Below.refl _ _⟩
  case round =>
    obtain ⟨k, hk, rfl, hW⟩ := hrel
    by_cases hlt : k < ms.length
    · obtain ⟨b, ha, hbl, q⟩ := (HH.out.1.later hW).at_ k hlt
      obtain ⟨b', ha', hbl', q'⟩ := (HH.out.2.later hW).at_ k hlt
      subst ha ha'
      obtain ⟨m, hm⟩ : ∃ m, m = ms.getD k En.none := ⟨_, rfl⟩
      rw [← hm] at q q'
      obtain ⟨c0, c1, _⟩ := q
      obtain ⟨d0, d1, _⟩ := q'
      have HX : Hid (∀ W, Below wr.heap.size wr W → Calls Tryz.prog 103 #[.agg #[.int .i64 m.num, .int .i64 m.seen], .agg #[.int .i64 m.num, .int .i64 m.seen]] W fun e w' => e = .returned (.bool true) ∧ Below W.heap.size W w') := fun W _ => eqEn m W
      clear hm
      go_wp2_with fail
      go_region_with (go_at_call 103; refine (HX.out _ ?_).mono ?_; (repeat (first | exact Below.refl _ _ | refine Below.drew ?_)); rintro e w2 ⟨rfl, hb2⟩)
      all_goals
        go_wp2
        go_roundw
        case rel =>
          refine ⟨k + 1, by omega, by go_num, ?_⟩
          repeat (first | exact blw_trans hW hb2 | exact blw_trans hW.drew hb2 | exact blw_trans hW.drew.drew hb2 | refine Below.drew ?_)
        case measure => simp [intOf]; omega
    · go_wp2
      go_ret
      exact ⟨rfl, hW⟩

set_option maxHeartbeats 8000000 in
theorem eqActV (X : Ac) (a a' : Option Addr) (c c' : Nat) (w : World) (h : EnsV w a X.ends) (h' : EnsV w a' X.ends) :
    Calls Tryz.prog 30 #[.agg #[.string X.svc, .int .i64 X.seen, .int .i64 X.create, .int .i64 X.want, .int .i64 X.cool, .bool X.scale, .slice a X.ends.length c, .bool X.drop], .agg #[.string X.svc, .int .i64 X.seen, .int .i64 X.create, .int .i64 X.want, .int .i64 X.cool, .bool X.scale, .slice a' X.ends.length c', .bool X.drop]] w fun e w' => e = .returned (.bool true) ∧ Below w.heap.size w w' := by
  have HH := hidA h
  have HH' := hidA h'
  have hsc : (X.scale != X.scale) = false := by cases X.scale <;> rfl
  have hdr : (X.drop != X.drop) = false := by cases X.drop <;> rfl
  clear h h'
  obtain ⟨wa, hwa⟩ : ∃ wa, wa = (w.alloc (.cells #[.string X.svc, .int .i64 X.seen, .int .i64 X.create, .int .i64 X.want, .int .i64 X.cool, .bool X.scale, .slice a X.ends.length c, .bool X.drop] 47)).alloc (.cells #[.string X.svc, .int .i64 X.seen, .int .i64 X.create, .int .i64 X.want, .int .i64 X.cool, .bool X.scale, .slice a' X.ends.length c', .bool X.drop] 47) := ⟨_, rfl⟩
  have HBa : Hid (Below w.heap.size w wa) := by show Below _ _ _; rw [hwa]; exact blw_alloc (blw_alloc (Below.refl _ _) _) _
  have HXa : Hid (BoxA wa w.heap.size (.string X.svc) (.int .i64 X.seen) (.int .i64 X.create) (.int .i64 X.want) (.int .i64 X.cool) (.bool X.scale) (.slice a X.ends.length c) (.bool X.drop)) := by show BoxA _ _ _ _ _ _ _ _ _ _ ; rw [hwa]; exact (BoxA.new' w _ _ _ _ _ _ _ _ _ _ rfl).past _
  have HYa : Hid (BoxA wa (w.heap.size + 1) (.string X.svc) (.int .i64 X.seen) (.int .i64 X.create) (.int .i64 X.want) (.int .i64 X.cool) (.bool X.scale) (.slice a' X.ends.length c') (.bool X.drop)) := by show BoxA _ _ _ _ _ _ _ _ _ _ ; rw [hwa]; exact BoxA.new' _ _ _ _ _ _ _ _ _ _ _ (by simp)
  go_enter Tryz.func30, Tryz.ntmps30
  go_upto_region 1 with fail
  rw [← hwa]
  clear hwa
  obtain ⟨yz, y0, y1, y2, y3, y4, y5, y6, y7⟩ := HXa.out
  obtain ⟨xz, x0, x1, x2, x3, x4, x5, x6, x7⟩ := HYa.out
  go_wp2_with fail
  refine (eqEnsV a a' c c' X.ends wa (HH.out.later HBa.out) (HH'.out.later HBa.out)).mono ?_
  rintro e wb ⟨rfl, hb⟩
  have HBb := hidA (blw_trans HBa.out hb)
  have HXb := hidA (HXa.out.later hb)
  have HYb := hidA (HYa.out.later hb)
  clear hb yz y0 y1 y2 y3 y4 y5 y6 y7 xz x0 x1 x2 x3 x4 x5 x6 x7 HXa HYa HBa
  obtain ⟨yz, y0, y1, y2, y3, y4, y5, y6, y7⟩ := HXb.out
  obtain ⟨xz, x0, x1, x2, x3, x4, x5, x6, x7⟩ := HYb.out
  go_wp2
  go_ret
  exact ⟨rfl, HBb.out⟩

/-- The lists are short. -/
def Short (L : List Ac) : Prop := L.length ≤ 1000 ∧ ∀ i, (L.getD i Ac.none).ends.length ≤ 1000


end Go.Proofs.YtamhfnlogldpaaaGreat
