/-
  Plain functions: mends that are ok; the row by places and by names.
-/
import Derived.Test.YtkjkklcflpchlaaGreatWalkMF
import Derived.Test.YtkjkklcflpchlaaGreatWalkML
namespace Go.Proofs.YtkjkklcflpchlaaGreat
open Go.RowKit Go.Deep

theorem Tryz.info171 : (Tryz.prog.info? 171).map (fun i => (i.zero, i.size, i.bytes)) = some (some (.agg #[.int .i64 0, .slice none 0 0, .string ByteArray.empty, .int .i64 0]), 4, 56) := by kernel_rfl

/-- A mending among the cells of a row. -/
def MngX (w : World) (xs : List Value) (o : Nat) (x : Mng) : Prop :=
  ∃ a c, xs[o]? = some (.int .i64 (x.field : Nat)) ∧ xs[o + 1]? = some (.slice a x.needs.length c) ∧ xs[o + 2]? = some (.string x.put) ∧ xs[o + 3]? = some (.int .i64 (x.frm : Nat)) ∧ NeedsOwn w 0 (.slice a x.needs.length c) x.needs

def MngsOwn (w : World) (lo : Nat) (v : Value) (L : List Mng) : Prop :=
  ∃ xs, w.ownsRow lo 171 4 v L.length xs ∧ ∀ i, i < L.length → MngX w xs (i * 4) (L.getD i Mng.none)

theorem MngX.later {w w' : World} {xs : List Value} {o : Nat} {x : Mng} (h : MngX w xs o x) (hb : Below w.heap.size w w') : MngX w' xs o x := by
  obtain ⟨a, c, h0, h1, h2, h3, h4⟩ := h
  exact ⟨a, c, h0, h1, h2, h3, owns_later h4 hb⟩

theorem MngsOwn.later {w w' : World} {lo : Nat} {v : Value} {L : List Mng} (h : MngsOwn w lo v L) (hb : Below w.heap.size w w') : MngsOwn w' lo v L := by
  obtain ⟨xs, h1, h2⟩ := h
  exact ⟨xs, owns_later h1 hb, fun i hi => (h2 i hi).later hb⟩

theorem MngsOwn.nil (w : World) (lo : Nat) : MngsOwn w lo (.slice none 0 0) [] := ⟨[], World.ownsRow_nil _ _ _ _, fun i hi => absurd hi (Nat.not_lt_zero i)⟩

theorem MngX.snoc {w : World} {xs : List Value} {o : Nat} {x : Mng} (h : MngX w xs o x) (ys : List Value) : MngX w (xs ++ ys) o x := by
  obtain ⟨a, c, h0, h1, h2, h3, h4⟩ := h
  have q : ∀ {j : Nat} {u : Value}, xs[j]? = some u → (xs ++ ys)[j]? = some u := fun {j u} hj => by
    rw [List.getElem?_append_left (List.getElem?_eq_some_iff.1 hj).1]; exact hj
  exact ⟨a, c, q h0, q h1, q h2, q h3, h4⟩

theorem MngX.grown {w w' : World} {xs : List Value} {o : Nat} {x : Mng} (h : MngX w xs o x) {lo n : Nat} {v : Value} {ys : List Value} (ho : w.ownsRow lo 171 4 v n ys) (hg : w.grownBy w' v.ownBlock) : MngX w' xs o x := by
  obtain ⟨a, c, h0, h1, h2, h3, h4⟩ := h
  exact ⟨a, c, h0, h1, h2, h3, owns_grown h4 ho (by decide) hg⟩

theorem mngsOf_add {w w' : World} {lo : Nat} {v v' : Value} {L : List Mng} {x : Mng} {xs : List Value} (h : w.ownsRow lo 171 4 v L.length xs) (hx : ∀ i, i < L.length → MngX w xs (i * 4) (L.getD i Mng.none)) {a : Option Addr} {n c : Nat} (hn : NeedsOwn w 0 (.slice a n c) x.needs)
    (ho : w'.ownsRow lo 171 4 v' (L.length + 1) (xs ++ [.int .i64 (x.field : Nat), .slice a n c, .string x.put, .int .i64 (x.frm : Nat)])) (hg : w.grownBy w' v.ownBlock) : MngsOwn w' lo v' (L ++ [x]) := by
  have hlen : n = x.needs.length := by obtain ⟨a', c', e⟩ := owns_slice hn; injection e
  subst hlen
  have hl : xs.length = L.length * 4 := h.1
  refine ⟨_, by rw [List.length_append]; exact ho, fun i hi => ?_⟩
  rw [List.length_append, List.length_singleton] at hi
  by_cases hik : i < L.length
  · have e : (L ++ [x]).getD i Mng.none = L.getD i Mng.none := by simp [hik, List.getElem?_append_left hik]
    rw [e]
    exact ((hx i hik).grown h hg).snoc _
  · obtain rfl : i = L.length := by omega
    have e : (L ++ [x]).getD L.length Mng.none = x := by simp
    rw [e]
    have q : ∀ j, (xs ++ [.int .i64 (x.field : Nat), .slice a x.needs.length c, .string x.put, .int .i64 (x.frm : Nat)])[L.length * 4 + j]? = [Value.int .i64 (x.field : Nat), .slice a x.needs.length c, .string x.put, .int .i64 (x.frm : Nat)][j]? := fun j => by
      rw [List.getElem?_append_right (by omega)]
      congr 1
      omega
    exact ⟨a, c, q 0, q 1, q 2, q 3, owns_grown hn h (by decide) hg⟩

def found (fs : List Fld) (m : Mnd) : Prop := nameAt fs m.field < fs.length ∧ (Pl.isEmp m.whn = false → nameAt fs m.whn < fs.length) ∧ (Pl.isEmp m.frm = false → nameAt fs m.frm < fs.length)
def ofKind (K : ByteArray) (m : Mnd) : Bool := m.kind.toList == K.toList
def mngsTo (fs : List Fld) (ms : List Mnd) (K : ByteArray) (k : Nat) : List Mng := ((ms.take k).filter (ofKind K)).map (mngOf fs)
def mngsOf (fs : List Fld) (ms : List Mnd) (K : ByteArray) : List Mng := (ms.filter (ofKind K)).map (mngOf fs)

theorem mngsTo_len (fs : List Fld) (ms : List Mnd) (K : ByteArray) (k : Nat) : (mngsTo fs ms K k).length ≤ ms.length := by
  unfold mngsTo
  rw [List.length_map]
  exact Nat.le_trans (List.length_filter_le _ _) (by rw [List.length_take]; omega)

theorem mngsTo_succ (fs : List Fld) (ms : List Mnd) (K : ByteArray) (k : Nat) (hk : k < ms.length) : mngsTo fs ms K (k + 1) = mngsTo fs ms K k ++ (if ofKind K (ms.getD k Mnd.none) = true then [mngOf fs (ms.getD k Mnd.none)] else []) := by
  have e : ms.getD k Mnd.none = ms[k] := by simp [hk]
  unfold mngsTo
  rw [e, List.take_succ_eq_append_getElem hk, List.filter_append, List.map_append]
  congr 1
  by_cases h : ofKind K ms[k] = true
  · simp [h]
  · simp [h]

theorem mngsTo_all (fs : List Fld) (ms : List Mnd) (K : ByteArray) (k : Nat) (hk : ms.length ≤ k) : mngsTo fs ms K k = mngsOf fs ms K := by
  unfold mngsTo mngsOf; rw [List.take_of_length_le hk]

set_option maxRecDepth 8000 in
set_option maxHeartbeats 4000000 in
theorem mendingsOf (s : Shp) (fb mb : Nat) (ms : List Mnd) (w : World) (h : FldsIn w fb s.fields) (hm : MndsIn w mb ms) (hok : ∀ m ∈ ms, ofKind s.kind m = true → found s.fields m) :
    Calls Tryz.prog 86 #[.agg #[.string s.kind, .slice (some ⟨fb, 0, none⟩) s.fields.length s.fields.length], .slice (some ⟨mb, 0, none⟩) ms.length ms.length] w fun e w' =>
      (∃ a n c, e = .returned (.slice a n c) ∧ MngsOwn w' w.heap.size (.slice a n c) (mngsOf s.fields ms s.kind)) ∧ Below w.heap.size w w' := by
  have hl := hm.len
  have HA : Hid (FldsIn w fb s.fields ∧ MndsIn w mb ms ∧ ∀ m ∈ ms, ofKind s.kind m = true → found s.fields m) := ⟨h, hm, hok⟩
  obtain ⟨i0, hi, hz0, hz1, hz2⟩ := info_parts Tryz.info171
  clear h hm hok
  have HB0 : Hid (Below w.heap.size w (w.alloc (.cells #[.string s.kind, .slice (some ⟨fb, 0, none⟩) s.fields.length s.fields.length] 99))) := blw_alloc (Below.refl _ _) _
  go_enter Tryz.func86, Tryz.ntmps86
  go_wp2
  go_loopw [5, 10] (fun v i wr => ∃ (k : Nat) (a : Option Addr) (c : Nat), k ≤ ms.length ∧ i = .int .i64 k ∧ v = .slice a (mngsTo s.fields ms s.kind k).length c ∧ MngsOwn wr (w.heap.size + 1) v (mngsTo s.fields ms s.kind k) ∧ Below (w.alloc (.cells #[.string s.kind, .slice (some ⟨fb, 0, none⟩) s.fields.length s.fields.length] 99)).heap.size (w.alloc (.cells #[.string s.kind, .slice (some ⟨fb, 0, none⟩) s.fields.length s.fields.length] 99)) wr) (fun _ i _ => ms.length - (intOf i).toNat)
  case atStart => exact ⟨0, none, 0, Nat.zero_le _, rfl, rfl, MngsOwn.nil _ _, Below.refl _ _⟩
  case round =>
    obtain ⟨k, a, c, hk, rfl, rfl, hO, hW⟩ := hrel
    have HO : Hid (MngsOwn wr (w.heap.size + 1) (.slice a (mngsTo s.fields ms s.kind k).length c) (mngsTo s.fields ms s.kind k)) := hO
    have HW : Hid (Below w.heap.size w wr) := blw_trans HB0.out hW
    have hs1 : w.heap.size < wr.heap.size := Nat.lt_of_lt_of_le (by simp) hW.size
    have k0 : wr.cell? ⟨w.heap.size, 0, none⟩ = some (.string s.kind) := (hW.cell (p := ⟨w.heap.size, 0, none⟩) (by simp)).trans (by simp)
    have k1 : wr.cell? ⟨w.heap.size, 1, none⟩ = some (.slice (some ⟨fb, 0, none⟩) s.fields.length s.fields.length) := (hW.cell (p := ⟨w.heap.size, 1, none⟩) (by simp)).trans (by simp)
    have HWw : Hid (Below (w.alloc (.cells #[.string s.kind, .slice (some ⟨fb, 0, none⟩) s.fields.length s.fields.length] 99)).heap.size (w.alloc (.cells #[.string s.kind, .slice (some ⟨fb, 0, none⟩) s.fields.length s.fields.length] 99)) wr) := hW
    clear hO hW
    by_cases hlt : k < ms.length
    · have hmk := (HA.out.2.1.later HW.out).at_ k hlt
      obtain ⟨m, hmm⟩ : ∃ m, m = ms.getD k Mnd.none := ⟨_, rfl⟩
      rw [← hmm] at hmk
      have HM : Hid (m = ms.getD k Mnd.none ∧ m ∈ ms ∧ m.sized) := ⟨hmm, by rw [hmm]; simp [hlt], hmk.sized⟩
      have hmb : mb < wr.heap.size := Nat.lt_of_lt_of_le HA.out.2.1.lt HW.out.size
      obtain ⟨c0, c1, c2, c3, c4, c5, _⟩ := hmk
      have HS : Hid (mngsTo s.fields ms s.kind (k + 1) = mngsTo s.fields ms s.kind k ++ (if ofKind s.kind m = true then [mngOf s.fields m] else [])) := by have := mngsTo_succ s.fields ms s.kind k hlt; rw [← hmm] at this; exact this
      clear hmm
      cases heq : (m.kind.toList == s.kind.toList)
      · have HS' : Hid (mngsTo s.fields ms s.kind (k + 1) = mngsTo s.fields ms s.kind k) := by show mngsTo _ _ _ _ = _; have := HS.out; rw [show ofKind s.kind m = false from heq] at this; simpa using this
        clear HS
        go_wp2
        go_roundw
        case rel => exact ⟨k + 1, a, c, by omega, by go_num, by rw [HS'.out], by rw [HS'.out]; exact HO.out.later (blw_alloc (Below.refl _ _) _), blw_alloc HWw.out _⟩
        case measure => simp [intOf]; omega
      · have HS' : Hid (mngsTo s.fields ms s.kind (k + 1) = mngsTo s.fields ms s.kind k ++ [mngOf s.fields m]) := by show mngsTo _ _ _ _ = _; have := HS.out; rw [show ofKind s.kind m = true from heq] at this; simpa using this
        have HFd : Hid (found s.fields m) := HA.out.2.2 m HM.out.2.1 heq
        clear HS
        have hbx : Below wr.heap.size wr (wr.alloc (.cells #[.string m.kind, .string m.field, .string m.whn, .string m.is_, .string m.put, .string m.frm] 104)) := blw_alloc (Below.refl _ _) _
        go_wp2_with fail
        refine (mendingOf fb s.fields m _ (HA.out.1.later (blw_trans HW.out hbx)) HM.out.2.2 HFd.out.1 HFd.out.2.1 HFd.out.2.2).mono ?_
        rintro e w2 ⟨⟨a2, n2, c2', rfl, hnd⟩, hb2⟩
        have hB2 : Below wr.heap.size wr w2 := blw_trans hbx hb2
        obtain ⟨xs, hxs1, hxs2⟩ := HO.out.later hB2
        obtain ⟨nf, hnf⟩ : ∃ nf, nf = (mngOf s.fields m).field := ⟨_, rfl⟩
        obtain ⟨nr, hnr⟩ : ∃ nr, nr = (mngOf s.fields m).frm := ⟨_, rfl⟩
        rw [← hnf, ← hnr]
        have HX : Hid (w2.ownsRow (w.heap.size + 1) 171 4 (.slice a (mngsTo s.fields ms s.kind k).length c) (mngsTo s.fields ms s.kind k).length xs ∧ (∀ i, i < (mngsTo s.fields ms s.kind k).length → MngX w2 xs (i * 4) ((mngsTo s.fields ms s.kind k).getD i Mng.none)) ∧ NeedsOwn w2 0 (.slice a2 n2 c2') (mngOf s.fields m).needs ∧ nf = (mngOf s.fields m).field ∧ nr = (mngOf s.fields m).frm) := ⟨hxs1, hxs2, owns_low hnd (Nat.zero_le _), hnf, hnr⟩
        have HB2 : Hid (Below wr.heap.size wr w2) := hB2
        have hle := mngsTo_len s.fields ms s.kind k
        obtain ⟨L, hL⟩ : ∃ L, L = mngsTo s.fields ms s.kind k := ⟨_, rfl⟩
        rw [← hL] at HX HS' HO hle ⊢
        have HLL : Hid (L = mngsTo s.fields ms s.kind k) := hL
        have hs2 : wr.heap.size < w2.heap.size := Nat.lt_of_lt_of_le (by simp) hb2.size
        clear hb2 hnd hB2 hbx hxs1 hxs2 hnf hnr hL c0 c1 c2 c3 c4 c5 k0 k1 hmb
        go_wp2_with (at_builtin; refine wpList_append_own _ rfl _ _ 141 rfl (w.heap.size + 1) 171 i0 (.agg #[.int .i64 0, .slice none 0 0, .string ByteArray.empty, .int .i64 0]) 4 56 Tryz.underlying141 hi hz0 hz1 hz2 rfl (by decide) (.slice a L.length c) L.length xs rfl ?c0 ⟨w2.heap.size, 0, none⟩ 1 1 [.int .i64 (nf : Nat), .slice a2 n2 c2', .string m.put, .int .i64 (nr : Nat)] rfl ?c1 ?c2 ?c3 ?c4 ?c5 ?c6 ?_)
        case c0 => exact owns_later HX.out.1 (blw_alloc (Below.refl _ _) _)
        case c1 => rfl
        case c2 =>
          intro j u hj
          match j, hj with
          | 0, hj => simp at hj; subst hj; simp [Addr.add]
          | 1, hj => simp at hj; subst hj; simp [Addr.add]
          | 2, hj => simp at hj; subst hj; simp [Addr.add]
          | 3, hj => simp at hj; subst hj; simp [Addr.add]
          | k + 4, hj => simp at hj
        case c3 => intro u hu; simp at hu; rcases hu with rfl | rfl | rfl | rfl <;> rfl
        case c4 => unfold maxLen; omega
        case c5 => omega
        case c6 => simp; omega
        intro v' w3 hown hgrow _
        obtain ⟨a3, d3, hv3⟩ := owns_slice hown
        subst hv3
        have hbt : Below w2.heap.size w2 (w2.alloc (.cells #[.int .i64 (nf : Nat), .slice a2 n2 c2', .string m.put, .int .i64 (nr : Nat)] 171)) := blw_alloc (Below.refl _ _) _
        have HN : Hid (MngsOwn w3 (w.heap.size + 1) (.slice a3 (L.length + 1) d3) (L ++ [mngOf s.fields m])) := by
          refine mngsOf_add (w := w2.alloc (.cells #[.int .i64 (nf : Nat), .slice a2 n2 c2', .string m.put, .int .i64 (nr : Nat)] 171)) (owns_later HX.out.1 hbt) (fun i hi => (HX.out.2.1 i hi).later hbt) (owns_later HX.out.2.2.1 hbt) ?_ hgrow
          rw [← HX.out.2.2.2.1, ← HX.out.2.2.2.2]
          exact hown
        have HB3 : Hid (Below (w.alloc (.cells #[.string s.kind, .slice (some ⟨fb, 0, none⟩) s.fields.length s.fields.length] 99)).heap.size (w.alloc (.cells #[.string s.kind, .slice (some ⟨fb, 0, none⟩) s.fields.length s.fields.length] 99)) w3) := by
          refine Below.grown (blw_trans (blw_trans HWw.out HB2.out) hbt) hgrow (blw_trans (blw_trans HWw.out HB2.out) hbt).size (fun q hq => ?_)
          have := (World.ownsRow.lt HX.out.1 q hq).1
          simpa using this
        clear hown hgrow hbt HX
        go_wp2
        go_roundw
        case rel => exact ⟨k + 1, a3, d3, by omega, by go_num, by rw [HS'.out, List.length_append]; rfl, by rw [HS'.out]; exact HN.out, HB3.out⟩
        case measure => simp [intOf]; omega
    · have HE : Hid (mngsTo s.fields ms s.kind k = mngsOf s.fields ms s.kind) := mngsTo_all _ _ _ _ (by omega)
      go_wp2
      go_ret
      refine ⟨⟨a, _, c, rfl, ?_⟩, HW.out⟩
      obtain ⟨xs, x1, x2⟩ := HO.out
      rw [← HE.out]
      exact ⟨xs, owns_low x1 (by omega), x2⟩

end Go.Proofs.YtkjkklcflpchlaaGreat

namespace Go.Proofs.YtkjkklcflpchlaaGreat
open Go.RowKit Go.Deep

def places (x : Mng) : List Nat := x.needs.map Need.place
def rdTo (L : List Mng) (p k : Nat) : List Nat := (L.take k).flatMap fun x => if x.field = p then places x else []
def rdOf (L : List Mng) (p : Nat) : List Nat := L.flatMap fun x => if x.field = p then places x else []

theorem rdTo_succ (L : List Mng) (p k : Nat) (hk : k < L.length) : rdTo L p (k + 1) = rdTo L p k ++ (if (L.getD k Mng.none).field = p then places (L.getD k Mng.none) else []) := by
  have e : L.getD k Mng.none = L[k] := by simp [hk]
  unfold rdTo
  rw [e, List.take_succ_eq_append_getElem hk, List.flatMap_append]
  simp
theorem rdTo_all (L : List Mng) (p k : Nat) (hk : L.length ≤ k) : rdTo L p k = rdOf L p := by unfold rdTo rdOf; rw [List.take_of_length_le hk]

theorem rdTo_len (L : List Mng) (p : Nat) (h2 : ∀ x ∈ L, x.needs.length ≤ 2) : ∀ k, (rdTo L p k).length ≤ 2 * k
  | 0 => by simp [rdTo]
  | k + 1 => by
    have ih := rdTo_len L p h2 k
    by_cases hk : k < L.length
    · rw [rdTo_succ L p k hk, List.length_append]
      have hm : L.getD k Mng.none ∈ L := by simp [hk]
      obtain ⟨y, hy⟩ : ∃ y, y = L.getD k Mng.none := ⟨_, rfl⟩
      rw [← hy] at hm ⊢
      have := h2 _ hm
      split
      · simp [places]; omega
      · simp; omega
    · have e : rdTo L p (k + 1) = rdTo L p k := by unfold rdTo; rw [List.take_of_length_le (by omega), List.take_of_length_le (by omega)]
      rw [e]; omega

/-- Needs that are read. -/
def NeedsAt (w : World) (v : Value) (ns : List Need) : Prop :=
  (ns = [] ∧ ∃ a c, v = .slice a 0 c) ∨ ∃ g c, v = .slice (some ⟨g, 0, none⟩) ns.length c ∧ g < w.heap.size ∧ ∀ i, i < ns.length →
    w.cell? ⟨g, i * 3, none⟩ = some (.int .i64 ((ns.getD i ⟨0, false, ByteArray.empty⟩).place : Nat)) ∧ w.cell? ⟨g, i * 3 + 1, none⟩ = some (.bool (ns.getD i ⟨0, false, ByteArray.empty⟩).anyth) ∧ w.cell? ⟨g, i * 3 + 2, none⟩ = some (.string (ns.getD i ⟨0, false, ByteArray.empty⟩).is_)

theorem NeedsOwn.at_ {w : World} {lo : Nat} {v : Value} {ns : List Need} (h : NeedsOwn w lo v ns) : NeedsAt w v ns := by
  have hcs : ∀ g, v.ownBlock = some g → ∀ j u, (needsCells ns)[j]? = some u → w.cell? ((⟨g, 0, none⟩ : Addr).add j) = some u := fun g hg => World.ownsRow.cells h hg
  rcases h.2 with ⟨rfl, hn⟩ | ⟨g, cap, cur, rfl, _, hg, _⟩
  · exact Or.inl ⟨List.length_eq_zero_iff.1 hn, _, _, rfl⟩
  · refine Or.inr ⟨g, cap, rfl, (Array.getElem?_eq_some_iff.1 hg).1, fun i hi => ?_⟩
    have q : ∀ j u, j < 3 → (needCells (ns.getD i ⟨0, false, ByteArray.empty⟩))[j]? = some u → w.cell? ⟨g, i * 3 + j, none⟩ = some u := by
      intro j u hj hu
      have := hcs g rfl (i * 3 + j) u (by rw [needsCells_at ns i j hi hj]; exact hu)
      rw [Addr.add_lit, Nat.zero_add] at this
      exact this
    exact ⟨q 0 _ (by omega) rfl, q 1 _ (by omega) rfl, q 2 _ (by omega) rfl⟩

theorem NeedsAt.later {w w' : World} {v : Value} {ns : List Need} (h : NeedsAt w v ns) (hb : Below w.heap.size w w') : NeedsAt w' v ns := by
  rcases h with h | ⟨g, c, rfl, h1, h2⟩
  · exact Or.inl h
  · exact Or.inr ⟨g, c, rfl, Nat.lt_of_lt_of_le h1 hb.size, fun i hi => ⟨(hb.cell (p := ⟨g, _, none⟩) h1).trans (h2 i hi).1, (hb.cell (p := ⟨g, _, none⟩) h1).trans (h2 i hi).2.1, (hb.cell (p := ⟨g, _, none⟩) h1).trans (h2 i hi).2.2⟩⟩

structure MngIs (w : World) (g o : Nat) (x : Mng) (a : Option Addr) (c : Nat) : Prop where
  c0 : w.cell? ⟨g, o, none⟩ = some (.int .i64 (x.field : Nat))
  c1 : w.cell? ⟨g, o + 1, none⟩ = some (.slice a x.needs.length c)
  c2 : w.cell? ⟨g, o + 2, none⟩ = some (.string x.put)
  c3 : w.cell? ⟨g, o + 3, none⟩ = some (.int .i64 (x.frm : Nat))
  needs : NeedsAt w (.slice a x.needs.length c) x.needs

theorem MngIs.later {w w' : World} {g o : Nat} {x : Mng} {a : Option Addr} {c : Nat} (h : MngIs w g o x a c) (hb : Below w.heap.size w w') (hlt : g < w.heap.size) : MngIs w' g o x a c := by
  have q : ∀ j, w'.cell? ⟨g, j, none⟩ = w.cell? ⟨g, j, none⟩ := fun j => hb.cell (p := ⟨g, j, none⟩) hlt
  exact ⟨(q _).trans h.c0, (q _).trans h.c1, (q _).trans h.c2, (q _).trans h.c3, h.needs.later hb⟩

def MngsAt (w : World) (v : Value) (L : List Mng) : Prop :=
  (L = [] ∧ ∃ a c, v = .slice a 0 c) ∨ ∃ g c, v = .slice (some ⟨g, 0, none⟩) L.length c ∧ g < w.heap.size ∧ ∀ i, i < L.length → ∃ a d, MngIs w g (i * 4) (L.getD i Mng.none) a d

theorem MngsAt.later {w w' : World} {v : Value} {L : List Mng} (h : MngsAt w v L) (hb : Below w.heap.size w w') : MngsAt w' v L := by
  rcases h with h | ⟨g, c, rfl, h1, h2⟩
  · exact Or.inl h
  · refine Or.inr ⟨g, c, rfl, Nat.lt_of_lt_of_le h1 hb.size, fun i hi => ?_⟩
    obtain ⟨a, d, h3⟩ := h2 i hi
    exact ⟨a, d, h3.later hb h1⟩

theorem MngsOwn.at_ {w : World} {lo : Nat} {v : Value} {L : List Mng} (h : MngsOwn w lo v L) : MngsAt w v L := by
  obtain ⟨xs, h1, h2⟩ := h
  have hcs : ∀ g, v.ownBlock = some g → ∀ j u, xs[j]? = some u → w.cell? ((⟨g, 0, none⟩ : Addr).add j) = some u := fun g hg => World.ownsRow.cells h1 hg
  rcases h1.2 with ⟨rfl, hn⟩ | ⟨g, cap, cur, rfl, _, hg, _⟩
  · exact Or.inl ⟨List.length_eq_zero_iff.1 hn, _, _, rfl⟩
  · refine Or.inr ⟨g, cap, rfl, (Array.getElem?_eq_some_iff.1 hg).1, fun i hi => ?_⟩
    obtain ⟨a, c, q0, q1, q2, q3, q4⟩ := h2 i hi
    have q : ∀ j u, xs[j]? = some u → w.cell? ⟨g, j, none⟩ = some u := by
      intro j u hu
      have := hcs g rfl j u hu
      rw [Addr.add_lit, Nat.zero_add] at this
      exact this
    exact ⟨a, c, q _ _ q0, q _ _ q1, q _ _ q2, q _ _ q3, q4.at_⟩

theorem IntsOwn.later {w w' : World} {lo : Nat} {v : Value} {l : List Nat} (h : IntsOwn w lo v l) (hb : Below w.heap.size w w') : IntsOwn w' lo v l := owns_later h hb

set_option maxRecDepth 8000 in
set_option maxHeartbeats 4000000 in
theorem readsI_row (mb g cap p : Nat) (L : List Mng) (w : World) (hc : w.cell? ⟨mb, 0, none⟩ = some (.slice (some ⟨g, 0, none⟩) L.length cap)) (hg : g < w.heap.size) (hL : ∀ i, i < L.length → ∃ a d, MngIs w g (i * 4) (L.getD i Mng.none) a d) (hl : L.length ≤ 12) (h2 : ∀ x ∈ L, x.needs.length ≤ 2) :
    Calls Tryz.prog 106 #[.int .i64 (p : Nat), .pointer (some ⟨mb, 0, none⟩)] w fun e w' => (∃ a n c, e = .returned (.slice a n c) ∧ IntsAt w' (.slice a n c) (rdOf L p)) ∧ Below w.heap.size w w' := by
  have HL : Hid ((∀ i, i < L.length → ∃ a d, MngIs w g (i * 4) (L.getD i Mng.none) a d) ∧ ∀ x ∈ L, x.needs.length ≤ 2) := ⟨hL, h2⟩
  obtain ⟨i0, hi, hz0, hz1, hz2⟩ := info_parts Tryz.info3
  clear hL h2
  go_enter Tryz.func106, Tryz.ntmps106
  go_wp2
  clear hc
  go_loopw [4, 11] (fun v i wr => ∃ (k : Nat) (a : Option Addr) (c : Nat), k ≤ L.length ∧ i = .int .i64 k ∧ v = .slice a (rdTo L p k).length c ∧ IntsOwn wr w.heap.size v (rdTo L p k) ∧ Below w.heap.size w wr) (fun _ i _ => L.length - (intOf i).toNat)
  case atStart => exact ⟨0, none, 0, Nat.zero_le _, rfl, rfl, World.ownsRow_nil _ _ _ _, Below.refl _ _⟩
  case round =>
    obtain ⟨k, a, c, hk, rfl, rfl, hO, hW⟩ := hrel
    have HO : Hid (IntsOwn wr w.heap.size (.slice a (rdTo L p k).length c) (rdTo L p k)) := hO
    have HW : Hid (Below w.heap.size w wr) := hW
    have HT : Hid ((rdTo L p k).length ≤ 2 * k) := rdTo_len L p HL.out.2 k
    clear hO
    by_cases hlt : k < L.length
    · obtain ⟨ax, dx, hx0⟩ := HL.out.1 k hlt
      obtain ⟨x, hxx⟩ : ∃ x, x = L.getD k Mng.none := ⟨_, rfl⟩
      rw [← hxx] at hx0
      have hx := hx0.later hW hg
      have HX : Hid (x = L.getD k Mng.none ∧ x.needs.length ≤ 2) := ⟨hxx, HL.out.2 x (by rw [hxx]; simp [hlt])⟩
      have HS : Hid (rdTo L p (k + 1) = rdTo L p k ++ (if x.field = p then places x else [])) := by have := rdTo_succ L p k hlt; rw [← hxx] at this; exact this
      have hgw : g < wr.heap.size := Nat.lt_of_lt_of_le hg hW.size
      obtain ⟨c0, c1, c2, c3, _⟩ := hx
      have HND : Hid (NeedsAt w (.slice ax x.needs.length dx) x.needs) := hx0.needs
      clear hxx hx0 hW
      by_cases heq : (x.field : Int) = (p : Int)
      · have HS' : Hid (rdTo L p (k + 1) = rdTo L p k ++ places x) := by have := HS.out; rw [if_pos (by omega)] at this; exact this
        clear HS
        have hn2 : x.needs.length ≤ 2 := HX.out.2
        go_wp2
        clear c0 c1 c2 c3
        obtain ⟨l, hll⟩ : ∃ l, l = rdTo L p k := ⟨_, rfl⟩
        rw [← hll] at HS' HO HT ⊢
        clear hll
        go_loopw [4, 22] (fun v i wq => ∃ (j : Nat) (a : Option Addr) (c : Nat), j ≤ x.needs.length ∧ i = .int .i64 j ∧ v = .slice a (l ++ (places x).take j).length c ∧ IntsOwn wq w.heap.size v (l ++ (places x).take j) ∧ Below w.heap.size w wq) (fun _ i _ => x.needs.length - (intOf i).toNat)
        case atStart => exact ⟨0, a, c, Nat.zero_le _, rfl, by simp, by simpa using HO.out.later (blw_alloc (Below.refl _ _) _), blw_alloc HW.out _⟩
        case round =>
          obtain ⟨j, aj, cj, hj, rfl, rfl, hOj, hWj⟩ := hrel
          rename World => wq
          have HOj : Hid (IntsOwn wq w.heap.size (.slice aj (l ++ (places x).take j).length cj) (l ++ (places x).take j)) := hOj
          have HWj : Hid (Below w.heap.size w wq) := hWj
          have HTj : Hid ((l ++ (places x).take j).length ≤ 2 * k + 2) := by show (l ++ (places x).take j).length ≤ 2 * k + 2; have := HT.out; rw [List.length_append, List.length_take]; simp [places]; omega
          clear hOj
          by_cases hjl : j < x.needs.length
          · rcases HND.out with ⟨e0, _⟩ | ⟨g2, c2, e0, hg2, hcs⟩
            · rw [e0] at hjl; exact absurd hjl (Nat.not_lt_zero j)
            injection e0 with e1 e2 e3
            subst e1 e3
            obtain ⟨d0, d1, d2⟩ := hcs j hjl
            have d0 := (hWj.cell (p := ⟨g2, j * 3, none⟩) hg2).trans d0
            have d1 := (hWj.cell (p := ⟨g2, j * 3 + 1, none⟩) hg2).trans d1
            have d2 := (hWj.cell (p := ⟨g2, j * 3 + 2, none⟩) hg2).trans d2
            obtain ⟨y, hy⟩ : ∃ y, y = x.needs.getD j ⟨0, false, ByteArray.empty⟩ := ⟨_, rfl⟩
            rw [← hy] at d0 d1 d2
            have hgq : g2 < wq.heap.size := Nat.lt_of_lt_of_le hg2 hWj.size
            have HP : Hid (l ++ (places x).take (j + 1) = (l ++ (places x).take j) ++ [y.place]) := by
              show l ++ (places x).take (j + 1) = (l ++ (places x).take j) ++ [y.place]
              have hjp : j < (places x).length := by simpa [places] using hjl
              rw [List.take_succ_eq_append_getElem hjp, ← List.append_assoc]
              congr 2
              simp [places, hy, hjl]
            obtain ⟨lj, hlj⟩ : ∃ lj, lj = l ++ (places x).take j := ⟨_, rfl⟩
            rw [← hlj] at HP HOj HTj ⊢
            have hlen : lj.length ≤ 2 * k + 2 := HTj.out
            have HWw : Hid (Below w.heap.size w wq) := HWj.out
            have hsz := HWw.out.size
            clear hlj hy hcs hWj
            go_wp2_with (at_builtin; refine wpList_append_own _ rfl _ _ 28 rfl w.heap.size 3 i0 (.int .i64 0) 1 8 Tryz.underlying28 hi hz0 hz1 hz2 rfl (by decide) (.slice aj lj.length cj) lj.length (lj.map fun n => Value.int .i64 (n : Nat)) rfl ?c0 ⟨wq.heap.size + 1, 0, none⟩ 1 1 [.int .i64 (y.place : Nat)] rfl ?c1 ?c2 ?c3 ?c4 ?c5 ?c6 ?_)
            case c0 => exact HOj.out.later (blw_alloc (blw_alloc (Below.refl _ _) _) _)
            case c3 => rfl
            case c4 => unfold maxLen; omega
            case c5 => omega
            case c6 => omega
            intro v' w3 hown hgrow _
            obtain ⟨a3, d3, hv3⟩ := owns_slice hown
            subst hv3
            have HN : Hid (IntsOwn w3 w.heap.size (.slice a3 (lj.length + 1) d3) (lj ++ [y.place])) := by
              show w3.ownsRow _ _ _ _ _ _
              rw [List.length_append, List.map_append]
              exact hown
            have HB3 : Hid (Below w.heap.size w w3) := Below.grown (blw_alloc (blw_alloc HWj.out _) _) hgrow (blw_alloc (blw_alloc HWj.out _) _).size (fun q hq => (World.ownsRow.lt HOj.out q hq).1)
            clear hown hgrow
            go_wp2
            go_roundw
            case rel => exact ⟨j + 1, a3, d3, by omega, by go_num, by rw [HP.out, List.length_append]; rfl, by rw [HP.out]; exact HN.out, HB3.out⟩
            case measure => simp [intOf]; omega
          · have HE : Hid (rdTo L p (k + 1) = l ++ (places x).take j) := by
              show rdTo L p (k + 1) = _
              rw [HS'.out, List.take_of_length_le (by simp [places]; omega)]
            go_wp2
            go_roundw
            case rel => first | exact ⟨k + 1, aj, cj, by omega, by go_num, by rw [HE.out], by rw [HE.out]; exact HOj.out, HWj.out⟩ | ((repeat apply Exists.intro); exact ⟨⟨k + 1, aj, cj, by omega, by go_num, by rw [HE.out], by rw [HE.out]; exact HOj.out, HWj.out⟩, rfl⟩)
            case measure => simp [intOf]; omega
      · have HS' : Hid (rdTo L p (k + 1) = rdTo L p k) := by show rdTo _ _ _ = _; have := HS.out; rw [if_neg (by omega)] at this; simpa using this
        clear HS
        go_wp2
        go_roundw
        case rel => exact ⟨k + 1, a, c, by omega, by go_num, by rw [HS'.out], by rw [HS'.out]; exact HO.out.later (blw_alloc (Below.refl _ _) _), blw_alloc HW.out _⟩
        case measure => simp [intOf]; omega
    · have HE : Hid (rdTo L p k = rdOf L p) := rdTo_all _ _ _ (by omega)
      go_wp2
      go_ret
      refine ⟨⟨a, _, c, rfl, ?_⟩, HW.out⟩
      rw [← HE.out]
      exact HO.out.at_ (by have := HT.out; omega)

set_option maxHeartbeats 400000 in
theorem readsI_nil (mb p : Nat) (a : Option Addr) (c : Nat) (w : World) (hc : w.cell? ⟨mb, 0, none⟩ = some (.slice a 0 c)) :
    Calls Tryz.prog 106 #[.int .i64 (p : Nat), .pointer (some ⟨mb, 0, none⟩)] w fun e w' => e = .returned (.slice none 0 0) ∧ w = w' := by
  go_enter Tryz.func106, Tryz.ntmps106
  go_wp2
  refine wp_loop_rounds 1 ?_
  rw [rounds_succ]
  go_wp2
  go_ret
  exact ⟨rfl, rfl⟩

theorem readsI (mb p : Nat) (v : Value) (L : List Mng) (w : World) (hc : w.cell? ⟨mb, 0, none⟩ = some v) (h : MngsAt w v L) (hl : L.length ≤ 12) (h2 : ∀ x ∈ L, x.needs.length ≤ 2) :
    Calls Tryz.prog 106 #[.int .i64 (p : Nat), .pointer (some ⟨mb, 0, none⟩)] w fun e w' => (∃ a n c, e = .returned (.slice a n c) ∧ IntsAt w' (.slice a n c) (rdOf L p)) ∧ Below w.heap.size w w' := by
  rcases h with ⟨rfl, a, c, rfl⟩ | ⟨g, c, rfl, h1, h3⟩
  · refine (readsI_nil mb p a c w hc).mono ?_
    rintro e w' ⟨rfl, rfl⟩
    exact ⟨⟨_, _, _, rfl, Or.inl ⟨rfl, _, _, rfl⟩⟩, Below.refl _ _⟩
  · exact readsI_row mb g c p L w hc h1 h3 hl h2

theorem make_ints (n : Nat) (h : n ≤ 1048576) (W : World) :
    (Instr.makeSlice 28 (.int .i64 (n : Int)) (.int .i64 (n : Int))).run Tryz.prog W = .ok (.slice (some ⟨W.heap.size, 0, none⟩) n n) (W.alloc (.cells (madeCells #[.int .i64 0] n) 3)) :=
  run_make_row' 28 3 (.int .i64 0) 8 Tryz.underlying28 Tryz.info3 rfl .i64 .i64 n (by omega) (by omega) W

theorem put_ints (cs : Array Value) (n k : Nat) (hsz : cs.size = n) (hk : k < n) (h : ∀ j, j < k → cs[j]? = some (.int .i64 (j : Nat))) :
    (cs.setIfInBounds k (.int .i64 (k : Nat))).size = n ∧ ∀ j, j < k + 1 → (cs.setIfInBounds k (.int .i64 (k : Nat)))[j]? = some (.int .i64 (j : Nat)) := by
  refine ⟨by simpa using hsz, fun j hj => ?_⟩
  rw [Array.getElem?_setIfInBounds]
  by_cases e : k = j
  · subst e; rw [if_pos rfl, if_pos (by omega)]
  · rw [if_neg e]; exact h j (by omega)

end Go.Proofs.YtkjkklcflpchlaaGreat

namespace Go.Proofs.YtkjkklcflpchlaaGreat
open Go.RowKit Go.Deep

set_option maxRecDepth 8000 in
set_option maxHeartbeats 2000000 in
theorem mendRowI (K : ByteArray) (n : Nat) (af : Option Addr) (cf : Nat) (a : Option Addr) (q c : Nat) (L : List Mng) (w : World) (hn : n ≤ 1048576) (h : MngsAt w (.slice a q c) L) (hl : L.length ≤ 12) (h2 : ∀ x ∈ L, x.needs.length ≤ 2) :
    Calls Tryz.prog 85 #[.agg #[.string K, .slice af n cf], .slice a q c] w fun e w' => (∃ a k d, e = .returned (.tuple #[.slice a k d, .bool (rowOk (rdOf L) n)]) ∧ (rowOk (rdOf L) n = true → IntsAt w' (.slice a k d) (rowG (rdOf L) n n))) ∧ Below w.heap.size w w' := by
  have HH : Hid (MngsAt w (.slice a q c) L ∧ L.length ≤ 12 ∧ ∀ x ∈ L, x.needs.length ≤ 2) := ⟨h, hl, h2⟩
  have hmk := make_ints n hn
  clear h hl h2
  go_enter Tryz.func85, Tryz.ntmps85
  go_wp2
  obtain ⟨wb, hwb⟩ : ∃ wb, wb = (w.alloc (.cells #[.string K, .slice af n cf] 99)).alloc (.cells #[.slice a q c] 141) := ⟨_, rfl⟩
  have hsb : wb.heap.size = w.heap.size + 1 + 1 := by rw [hwb]; simp
  have HB0 : Hid (Below w.heap.size w wb) := by show Below _ _ _; rw [hwb]; exact blw_alloc (blw_alloc (Below.refl _ _) _) _
  have HC0 : Hid (wb.cell? ⟨w.heap.size + 1, 0, none⟩ = some (.slice a q c)) := by show wb.cell? _ = _; rw [hwb]; simp
  rw [← hsb, ← hwb]
  have HSB : Hid (wb.heap.size = w.heap.size + 1 + 1) := hsb
  clear hwb hsb
  go_loopw [14] (fun i wr => ∃ (k : Nat) (cs : Array Value), k ≤ n ∧ i = .int .i64 k ∧ wr = wb.alloc (.cells cs 3) ∧ cs.size = n ∧ ∀ j, j < k → cs[j]? = some (.int .i64 (j : Nat))) (fun i _ => n - (intOf i).toNat)
  case atStart => exact ⟨0, _, Nat.zero_le _, rfl, rfl, size_madeCells _ _, fun j hj => absurd hj (Nat.not_lt_zero j)⟩
  case round =>
    obtain ⟨k, cs, hk, rfl, rfl, hsz, hall⟩ := hrel
    have HA : Hid (cs.size = n ∧ ∀ j, j < k → cs[j]? = some (.int .i64 (j : Nat))) := ⟨hsz, hall⟩
    clear hall hsz hmk
    by_cases hlt : k < n
    · obtain ⟨v, hv⟩ : ∃ v, cs[k]? = some v := ⟨_, Array.getElem?_eq_getElem (by rw [HA.out.1]; exact hlt)⟩
      have HP := put_ints cs n k HA.out.1 hlt HA.out.2
      have HP' : Hid ((cs.setIfInBounds k (.int .i64 (k : Nat))).size = n ∧ ∀ j, j < k + 1 → (cs.setIfInBounds k (.int .i64 (k : Nat)))[j]? = some (.int .i64 (j : Nat))) := HP
      clear HP
      go_wp2
      go_roundw
      case rel => exact ⟨k + 1, _, by omega, by go_num, rfl, HP'.out.1, HP'.out.2⟩
      case measure => simp [intOf]; omega
    · obtain rfl : k = n := by omega
      have hB1 : Below w.heap.size w (wb.alloc (.cells cs 3)) := blw_alloc HB0.out _
      have HX : Hid (Calls Tryz.prog 105 #[.slice (some ⟨wb.heap.size, 0, none⟩) k k, .func (.func 106) #[] #[.pointer (some ⟨w.heap.size + 1, 0, none⟩)]] (wb.alloc (.cells cs 3)) fun e w' => (∃ a j d, e = .returned (.tuple #[.slice a j d, .bool (rowOk (rdOf L) k)]) ∧ (rowOk (rdOf L) k = true → IntsAt w' (.slice a j d) (rowG (rdOf L) k k))) ∧ Below (wb.alloc (.cells cs 3)).heap.size (wb.alloc (.cells cs 3)) w') := by
        refine rowI wb.heap.size k (w.heap.size + 1) k (rdOf L) (wb.alloc (.cells cs 3)) hn (by simp) (fun i hi => ?_) (fun x W _ hW => ?_)
        · rw [World.cell?_alloc_new]; exact HA.out.2 i hi
        have hbw : Below wb.heap.size wb W := blw_trans (blw_alloc (Below.refl _ _) _) hW
        exact readsI (w.heap.size + 1) x (.slice a q c) L W ((hbw.cell (p := ⟨w.heap.size + 1, 0, none⟩) (by have := HSB.out; show w.heap.size + 1 < _; omega)).trans HC0.out) (HH.out.1.later (blw_trans HB0.out hbw)) HH.out.2.1 HH.out.2.2
      go_wp2_with fail
      refine HX.out.mono ?_
      rintro e w3 ⟨⟨a3, k3, d3, rfl, hi3⟩, hb3⟩
      have hB3 := blw_trans hB1 hb3
      have HI3 : Hid (rowOk (rdOf L) k = true → IntsAt w3 (.slice a3 k3 d3) (rowG (rdOf L) k k)) := hi3
      obtain ⟨R, hR⟩ : ∃ R, R = rowOk (rdOf L) k := ⟨_, rfl⟩
      rw [← hR] at HI3 ⊢
      have HRR : Hid (R = rowOk (rdOf L) k) := hR
      clear hb3 hi3 hR
      go_wp2
      go_ret2
      exact ⟨⟨a3, k3, d3, by rw [← HRR.out]; rfl, by rw [← HRR.out]; exact HI3.out⟩, hB3⟩

end Go.Proofs.YtkjkklcflpchlaaGreat

namespace Go.Proofs.YtkjkklcflpchlaaGreat
open Go.RowKit Go.Deep

theorem less_irr : ∀ x : List UInt8, Op.bytesLess x x = false
  | [] => rfl
  | a :: x => by
    have := less_irr x
    simp [Op.bytesLess, this]

theorem less_trans : ∀ x y z : List UInt8, Op.bytesLess x y = true → Op.bytesLess y z = true → Op.bytesLess x z = true
  | _, [], _, h, _ => by simp [Op.bytesLess] at h
  | _, _ :: _, [], _, h => by simp [Op.bytesLess] at h
  | [], _ :: _, _ :: _, _, _ => by simp [Op.bytesLess]
  | a :: x, b :: y, c :: z, h1, h2 => by
    have ih := less_trans x y z
    simp only [Op.bytesLess, Bool.or_eq_true, Bool.and_eq_true, decide_eq_true_eq, beq_iff_eq] at h1 h2 ⊢
    rcases h1 with h1 | ⟨rfl, h1⟩
    · rcases h2 with h2 | ⟨rfl, h2⟩
      · exact Or.inl (UInt8.lt_trans h1 h2)
      · exact Or.inl h1
    · rcases h2 with h2 | ⟨rfl, h2⟩
      · exact Or.inl h2
      · exact Or.inr ⟨rfl, ih h1 h2⟩

theorem kinds_less {ss : List Shp} (h : shapesOk ss = true) (i : Nat) : ∀ d, i + d + 1 < ss.length → Pl.less (ss.getD i Shp.none).kind (ss.getD (i + d + 1) Shp.none).kind = true
  | 0, hl => by
    have := shapeAt_of h (i := i + 1) (by omega)
    unfold shapeAt at this
    have h1 := ((Bool.and_eq_true _ _).mp ((Bool.and_eq_true _ _).mp this).1).2
    simpa using h1
  | d + 1, hl => by
    have ih := kinds_less h i d (by omega)
    have := shapeAt_of h (i := i + (d + 1) + 1) (by omega)
    unfold shapeAt at this
    have h1 := ((Bool.and_eq_true _ _).mp ((Bool.and_eq_true _ _).mp this).1).2
    have h2 : Pl.less (ss.getD (i + d + 1) Shp.none).kind (ss.getD (i + (d + 1) + 1) Shp.none).kind = true := by
      simpa [show i + (d + 1) + 1 - 1 = i + d + 1 by omega] using h1
    exact less_trans _ _ _ ih h2

theorem kindAt_self {ss : List Shp} (h : shapesOk ss = true) {i : Nat} (hi : i < ss.length) {k : ByteArray} (hk : (k.toList == (ss.getD i Shp.none).kind.toList) = true) : kindAt ss k = i := by
  rw [beq_iff_eq] at hk
  have hle : kindAt ss k ≤ i := by
    unfold kindAt
    exact Nat.le_of_not_lt fun hlt => by
      have := List.not_of_lt_findIdx hlt
      have e : ss.getD i Shp.none = ss[i] := by simp [hi]
      rw [e] at hk
      simp [hk] at this
  by_cases hq : kindAt ss k = i
  · exact hq
  exfalso
  have hlt : kindAt ss k < ss.length := by omega
  have h1 : ((ss.getD (kindAt ss k) Shp.none).kind.toList == k.toList) = true := by
    have e : ss.getD (kindAt ss k) Shp.none = ss[kindAt ss k] := by simp [hlt]
    rw [e]
    exact List.findIdx_getElem (xs := ss) (p := fun s : Shp => s.kind.toList == k.toList) (w := hlt)
  rw [beq_iff_eq] at h1
  have h2 := kinds_less h (kindAt ss k) (i - kindAt ss k - 1) (by omega)
  rw [show kindAt ss k + (i - kindAt ss k - 1) + 1 = i by omega] at h2
  unfold Pl.less at h2
  rw [h1, hk, less_irr] at h2
  cases h2

theorem nameAt_self {ss : List Shp} {fs : List Fld} (h : fieldsOk ss fs = true) {i : Nat} (hi : i < fs.length) : nameAt fs (fs.getD i Fld.none).nm = i := by
  have := fieldAt_of h hi
  unfold fieldAt at this
  have h2 := ((Bool.and_eq_true _ _).mp this).2
  rw [twice_eq fs i hi] at h2
  have hle := nameAt_le fs i hi
  simp at h2
  have : nameAt fs (fs.getD i Fld.none).nm = nameAt fs (fs[i]?.getD Fld.none).nm := by simp
  omega

theorem nameAt_eq {fs : List Fld} {a b : ByteArray} (h : a.toList = b.toList) : nameAt fs a = nameAt fs b := by unfold nameAt; rw [h]

def nmAt (fs : List Fld) (p : Nat) : ByteArray := (fs.getD p Fld.none).nm

/-- A name is in the row of names just where its place is in the row of places. -/
theorem has_row {ss : List Shp} {fs : List Fld} (h : fieldsOk ss fs = true) {row : List Nat} (hr : ∀ p ∈ row, p < fs.length) {k : ByteArray} (hk : nameAt fs k < fs.length) : Pl.has (row.map (nmAt fs)) k = inRow row (nameAt fs k) := by
  unfold Pl.has inRow
  rw [Bool.eq_iff_iff, List.any_eq_true, List.contains_iff_mem]
  constructor
  · rintro ⟨x, hx, he⟩
    rw [List.mem_map] at hx
    obtain ⟨p, hp, rfl⟩ := hx
    rw [beq_iff_eq] at he
    have h1 := nameAt_self h (hr p hp)
    have h2 := nameAt_eq (fs := fs) he
    unfold nmAt at h2
    rw [h1] at h2
    rw [← h2]; exact hp
  · intro hm
    exact ⟨_, List.mem_map.2 ⟨_, hm, rfl⟩, nameAt_nm hk⟩

theorem all_range {α : Type} (d : α) (p : α → Bool) (l : List α) : ((List.range l.length).all fun i => p (l.getD i d)) = l.all p := by
  rw [Bool.eq_iff_iff, List.all_eq_true, List.all_eq_true]
  constructor
  · intro h x hx
    obtain ⟨i, hi, rfl⟩ := List.getElem_of_mem hx
    have := h i (List.mem_range.2 hi)
    simpa [hi] using this
  · intro h i hi
    have hi' := List.mem_range.1 hi
    have : l.getD i d = l[i] := by simp [hi']
    rw [this]
    exact h _ (List.getElem_mem hi')

theorem rdOf_cons (fs : List Fld) (m : Mnd) (ms : List Mnd) (K : ByteArray) (i : Nat) : rdOf (mngsOf fs (m :: ms) K) i = (if (ofKind K m && decide (nameAt fs m.field = i)) = true then (needsOf fs m).map Need.place else []) ++ rdOf (mngsOf fs ms K) i := by
  unfold rdOf mngsOf
  cases h : ofKind K m
  · simp [h]
  · simp [h, mngOf, places]

theorem ready_eq {ss : List Shp} {fs : List Fld} (h : fieldsOk ss fs = true) {row : List Nat} (hr : ∀ p ∈ row, p < fs.length) (K : ByteArray) {i : Nat} (hi : i < fs.length) :
    ∀ ms : List Mnd, (∀ m ∈ ms, ofKind K m = true → found fs m) → ms.all (readyN1 K (nmAt fs i) (row.map (nmAt fs))) = !(rdOf (mngsOf fs ms K) i).any (fun y => !inRow row y)
  | [], _ => by simp [rdOf, mngsOf]
  | m :: ms, hf => by
    have ih := ready_eq h hr K hi ms (fun m' hm' => hf m' (List.mem_cons_of_mem _ hm'))
    rw [List.all_cons, ih, rdOf_cons, List.any_append, Bool.not_or]
    congr 1
    unfold readyN1
    cases hk : ofKind K m
    · have hk' : (m.kind.toList == K.toList) = false := hk
      rw [hk']; simp
    · have hk' : (m.kind.toList == K.toList) = true := hk
      obtain ⟨f1, f2, f3⟩ := hf m (List.mem_cons_self ..) hk
      have hfe : (m.field.toList == (nmAt fs i).toList) = decide (nameAt fs m.field = i) := by
        rw [Bool.eq_iff_iff, beq_iff_eq, decide_eq_true_eq]
        constructor
        · intro e
          have := nameAt_eq (fs := fs) e
          rw [this]
          exact nameAt_self h hi
        · intro e
          have := nameAt_nm f1
          rw [beq_iff_eq, e] at this
          exact this.symm
      rw [hk', hfe]
      by_cases he : nameAt fs m.field = i
      · simp only [he, decide_true, Bool.and_true, if_true, Bool.not_true, Bool.false_or]
        have n1 : needN (row.map (nmAt fs)) m.whn = (Pl.isEmp m.whn || inRow row (nameAt fs m.whn)) := by
          unfold needN
          cases hw : Pl.isEmp m.whn
          · rw [has_row h hr (f2 hw)]
          · rfl
        have n2 : needN (row.map (nmAt fs)) m.frm = (Pl.isEmp m.frm || inRow row (nameAt fs m.frm)) := by
          unfold needN
          cases hw : Pl.isEmp m.frm
          · rw [has_row h hr (f3 hw)]
          · rfl
        rw [n1, n2]
        unfold needsOf
        cases hw : Pl.isEmp m.whn <;> cases hq : Pl.isEmp m.frm <;> simp
      · simp [he]

theorem rowG_lt (rd : Nat → List Nat) (n : Nat) : ∀ j, ∀ p ∈ rowG rd n j, p < n
  | 0, p, h => by simp [rowG] at h
  | j + 1, p, h => by
    rw [rowG] at h
    split at h
    · rename_i hl
      rw [List.mem_append, List.mem_singleton] at h
      rcases h with h | rfl
      · exact rowG_lt rd n j p h
      · exact hl
    · exact rowG_lt rd n j p h

def rdM (fs : List Fld) (ms : List Mnd) (K : ByteArray) : Nat → List Nat := rdOf (mngsOf fs ms K)
def shapeRow (ms : List Mnd) (s : Shp) : Bool := rowOk (rdM s.fields ms s.kind) s.fields.length
def mendsTo (ss : List Shp) (ms : List Mnd) (k : Nat) : Bool := (List.range k).all fun i => mendOk ss (ms.getD i Mnd.none)
def rowsTo (ss : List Shp) (ms : List Mnd) (k : Nat) : Bool := (List.range k).all fun i => shapeRow ms (ss.getD i Shp.none)
def mendsOk (ss : List Shp) (ms : List Mnd) : Bool := shapesOk ss && decide (ms.length ≤ 12) && mendsTo ss ms ms.length && rowsTo ss ms ss.length

/-- What the spec's test at a place says. -/
theorem ready_at {ss : List Shp} {fs : List Fld} (h : fieldsOk ss fs = true) (ms : List Mnd) (K : ByteArray) (hf : ∀ m ∈ ms, ofKind K m = true → found fs m) {row : List Nat} (hr : ∀ p ∈ row, p < fs.length) {i : Nat} (hi : i < fs.length) :
    (!Pl.has (row.map (nmAt fs)) (nmAt fs i) && readyN ms K (nmAt fs i) (row.map (nmAt fs))) = readyG (rdM fs ms K) row i := by
  unfold readyG readyN rdM
  rw [all_range, ready_eq h hr K hi ms hf]
  have e : nameAt fs (nmAt fs i) = i := nameAt_self h hi
  rw [has_row h hr (by rw [e]; exact hi), e]

theorem found_of {ss : List Shp} {ms : List Mnd} (h : shapesOk ss = true) (hm : mendsTo ss ms ms.length = true) {i : Nat} (hi : i < ss.length) : ∀ m ∈ ms, ofKind (ss.getD i Shp.none).kind m = true → found (ss.getD i Shp.none).fields m := by
  intro m hmm hk
  unfold mendsTo at hm
  rw [all_range, List.all_eq_true] at hm
  have h1 := hm m hmm
  unfold mendOk at h1
  have hks := kindAt_self h hi hk
  rw [hks] at h1
  have h2 := ((Bool.and_eq_true _ _).mp h1).2
  unfold mendOkF at h2
  simp only [Bool.and_eq_true] at h2
  obtain ⟨⟨⟨⟨p1, _⟩, p3⟩, p4⟩, _⟩ := h2
  refine ⟨plain_lt p1, fun hw => ?_, fun hw => ?_⟩
  · unfold readOk at p3
    rw [hw] at p3
    simp only [Bool.false_or, Bool.and_eq_true] at p3
    exact plain_lt p3.2
  · unfold readOk at p4
    rw [hw] at p4
    simp only [Bool.false_or, Bool.and_eq_true] at p4
    exact plain_lt p4.2

end Go.Proofs.YtkjkklcflpchlaaGreat
