/-
  Walks: what the mends of a field read; the row of a shape's fields.
-/
import Derived.Test.YtfdahoekjpobaaaGreatWalkMF
namespace Go.Proofs.YtfdahoekjpobaaaGreat
open Go.RowKit Go.Deep

theorem Tryz.info103 : (Tryz.prog.info? 103).map (fun i => (i.zero, i.size, i.bytes)) = some (some (.agg #[.int .i64 0, .slice none 0 0, .string ByteArray.empty, .int .i64 0]), 4, 56) := by kernel_rfl

/-- A mending among the cells of a row. -/
def MngX (w : World) (xs : List Value) (o : Nat) (x : Mng) : Prop :=
  ∃ a c, xs[o]? = some (.int .i64 (x.field : Nat)) ∧ xs[o + 1]? = some (.slice a x.needs.length c) ∧ xs[o + 2]? = some (.string x.put) ∧ xs[o + 3]? = some (.int .i64 (x.frm : Nat)) ∧ NeedsOwn w 0 (.slice a x.needs.length c) x.needs

def MngsOwn (w : World) (lo : Nat) (v : Value) (L : List Mng) : Prop :=
  ∃ xs, w.ownsRow lo 103 4 v L.length xs ∧ ∀ i, i < L.length → MngX w xs (i * 4) (L.getD i Mng.none)

theorem MngX.later {w w' : World} {xs : List Value} {o : Nat} {x : Mng} (h : MngX w xs o x) (hb : Below w.heap.size w w') : MngX w' xs o x := by
  obtain ⟨a, c, h0, h1, h2, h3, h4⟩ := h
  exact ⟨a, c, h0, h1, h2, h3, owns_later h4 hb⟩

theorem MngsOwn.later {w w' : World} {lo : Nat} {v : Value} {L : List Mng} (h : MngsOwn w lo v L) (hb : Below w.heap.size w w') : MngsOwn w' lo v L := by
  obtain ⟨xs, h1, h2⟩ := h
  exact ⟨xs, owns_later h1 hb, fun i hi => (h2 i hi).later hb⟩

theorem MngsOwn.nil (w : World) (lo : Nat) : MngsOwn w lo (.slice none 0 0) [] := ⟨[], World.ownsRow_nil _ _ _ _, fun i hi => absurd hi (Nat.not_lt_zero i)⟩

theorem MngX.snoc {w : World} {xs : List Value} {o : Nat} {x : Mng} (h : MngX w xs o x) (ys : List Value) : MngX w (xs ++ ys) o x := by
  obtain ⟨a, c, h0, h1, h2, h3, h4⟩ := h
  have q : ∀ {j : Nat} {u : Value}, xs[j]? = some u → (xs ++ ys)[j]? = some u := fun {j u} hj => by
    rw [List.getElem?_append_left (List.getElem?_eq_some_iff.1 hj).1]; exact hj
  exact ⟨a, c, q h0, q h1, q h2, q h3, h4⟩

theorem MngX.grown {w w' : World} {xs : List Value} {o : Nat} {x : Mng} (h : MngX w xs o x) {lo n : Nat} {v : Value} {ys : List Value} (ho : w.ownsRow lo 103 4 v n ys) (hg : w.grownBy w' v.ownBlock) : MngX w' xs o x := by
  obtain ⟨a, c, h0, h1, h2, h3, h4⟩ := h
  exact ⟨a, c, h0, h1, h2, h3, owns_grown h4 ho (by decide) hg⟩

theorem mngsOf_add {w w' : World} {lo : Nat} {v v' : Value} {L : List Mng} {x : Mng} {xs : List Value} (h : w.ownsRow lo 103 4 v L.length xs) (hx : ∀ i, i < L.length → MngX w xs (i * 4) (L.getD i Mng.none)) {a : Option Addr} {n c : Nat} (hn : NeedsOwn w 0 (.slice a n c) x.needs)
    (ho : w'.ownsRow lo 103 4 v' (L.length + 1) (xs ++ [.int .i64 (x.field : Nat), .slice a n c, .string x.put, .int .i64 (x.frm : Nat)])) (hg : w.grownBy w' v.ownBlock) : MngsOwn w' lo v' (L ++ [x]) := by
  have hlen : n = x.needs.length := by obtain ⟨a', c', e⟩ := owns_slice hn; injection e
  subst hlen
  have hl : xs.length = L.length * 4 := h.1
  refine ⟨_, by rw [List.length_append]; exact ho, fun i hi => ?_⟩
  rw [List.length_append, List.length_singleton] at hi
  by_cases hik : i < L.length
  · have e : (L ++ [x]).getD i Mng.none = L.getD i Mng.none := by simp [hik, List.getElem?_append_left hik]
    rw [e]
    exact ((hx i hik).grown h hg).snoc _
  · obtain rfl : i = L.length := by omega
    have e : (L ++ [x]).getD L.length Mng.none = x := by simp
    rw [e]
    have q : ∀ j, (xs ++ [.int .i64 (x.field : Nat), .slice a x.needs.length c, .string x.put, .int .i64 (x.frm : Nat)])[L.length * 4 + j]? = [Value.int .i64 (x.field : Nat), .slice a x.needs.length c, .string x.put, .int .i64 (x.frm : Nat)][j]? := fun j => by
      rw [List.getElem?_append_right (by omega)]
      congr 1
      omega
    exact ⟨a, c, q 0, q 1, q 2, q 3, owns_grown hn h (by decide) hg⟩

def found (fs : List Fld) (m : Mnd) : Prop := nameAt fs m.field < fs.length ∧ (Pl.isEmp m.whn = false → nameAt fs m.whn < fs.length) ∧ (Pl.isEmp m.frm = false → nameAt fs m.frm < fs.length)
def ofKind (K : ByteArray) (m : Mnd) : Bool := m.kind.toList == K.toList
def mngsTo (fs : List Fld) (ms : List Mnd) (K : ByteArray) (k : Nat) : List Mng := ((ms.take k).filter (ofKind K)).map (mngOf fs)
def mngsOf (fs : List Fld) (ms : List Mnd) (K : ByteArray) : List Mng := (ms.filter (ofKind K)).map (mngOf fs)

theorem mngsTo_len (fs : List Fld) (ms : List Mnd) (K : ByteArray) (k : Nat) : (mngsTo fs ms K k).length ≤ ms.length := by
  unfold mngsTo
  rw [List.length_map]
  exact Nat.le_trans (List.length_filter_le _ _) (by rw [List.length_take]; omega)

theorem mngsTo_succ (fs : List Fld) (ms : List Mnd) (K : ByteArray) (k : Nat) (hk : k < ms.length) : mngsTo fs ms K (k + 1) = mngsTo fs ms K k ++ (if ofKind K (ms.getD k Mnd.none) = true then [mngOf fs (ms.getD k Mnd.none)] else []) := by
  have e : ms.getD k Mnd.none = ms[k] := by simp [hk]
  unfold mngsTo
  rw [e, List.take_succ_eq_append_getElem hk, List.filter_append, List.map_append]
  congr 1
  by_cases h : ofKind K ms[k] = true
  · simp [h]
  · simp [h]

theorem mngsTo_all (fs : List Fld) (ms : List Mnd) (K : ByteArray) (k : Nat) (hk : ms.length ≤ k) : mngsTo fs ms K k = mngsOf fs ms K := by
  unfold mngsTo mngsOf; rw [List.take_of_length_le hk]

set_option maxRecDepth 8000 in
set_option maxHeartbeats 4000000 in
theorem mendingsOf (s : Shp) (fb mb : Nat) (ms : List Mnd) (w : World) (h : FldsIn w fb s.fields) (hm : MndsIn w mb ms) (hok : ∀ m ∈ ms, ofKind s.kind m = true → found s.fields m) :
    Calls Tryz.prog 49 #[.agg #[.string s.kind, .slice (some ⟨fb, 0, none⟩) s.fields.length s.fields.length], .slice (some ⟨mb, 0, none⟩) ms.length ms.length] w fun e w' =>
      (∃ a n c, e = .returned (.slice a n c) ∧ MngsOwn w' w.heap.size (.slice a n c) (mngsOf s.fields ms s.kind)) ∧ Below w.heap.size w w' := by
  have hl := hm.len
  have HA : Hid (FldsIn w fb s.fields ∧ MndsIn w mb ms ∧ ∀ m ∈ ms, ofKind s.kind m = true → found s.fields m) := ⟨h, hm, hok⟩
  obtain ⟨i0, hi, hz0, hz1, hz2⟩ := info_parts Tryz.info103
  clear h hm hok
  have HB0 : Hid (Below w.heap.size w (w.alloc (.cells #[.string s.kind, .slice (some ⟨fb, 0, none⟩) s.fields.length s.fields.length] 56))) := blw_alloc (Below.refl _ _) _
  go_enter Tryz.func49, Tryz.ntmps49
  go_wp2
  go_loopw [5, 10] (fun v i wr => ∃ (k : Nat) (a : Option Addr) (c : Nat), k ≤ ms.length ∧ i = .int .i64 k ∧ v = .slice a (mngsTo s.fields ms s.kind k).length c ∧ MngsOwn wr (w.heap.size + 1) v (mngsTo s.fields ms s.kind k) ∧ Below (w.alloc (.cells #[.string s.kind, .slice (some ⟨fb, 0, none⟩) s.fields.length s.fields.length] 56)).heap.size (w.alloc (.cells #[.string s.kind, .slice (some ⟨fb, 0, none⟩) s.fields.length s.fields.length] 56)) wr) (fun _ i _ => ms.length - (intOf i).toNat)
  case atStart => exact ⟨0, none, 0, Nat.zero_le _, rfl, rfl, MngsOwn.nil _ _, Below.refl _ _⟩
  case round =>
    obtain ⟨k, a, c, hk, rfl, rfl, hO, hW⟩ := hrel
    have HO : Hid (MngsOwn wr (w.heap.size + 1) (.slice a (mngsTo s.fields ms s.kind k).length c) (mngsTo s.fields ms s.kind k)) := hO
    have HW : Hid (Below w.heap.size w wr) := blw_trans HB0.out hW
    have hs1 : w.heap.size < wr.heap.size := Nat.lt_of_lt_of_le (by simp) hW.size
    have k0 : wr.cell? ⟨w.heap.size, 0, none⟩ = some (.string s.kind) := (hW.cell (p := ⟨w.heap.size, 0, none⟩) (by simp)).trans (by simp)
    have k1 : wr.cell? ⟨w.heap.size, 1, none⟩ = some (.slice (some ⟨fb, 0, none⟩) s.fields.length s.fields.length) := (hW.cell (p := ⟨w.heap.size, 1, none⟩) (by simp)).trans (by simp)
    have HWw : Hid (Below (w.alloc (.cells #[.string s.kind, .slice (some ⟨fb, 0, none⟩) s.fields.length s.fields.length] 56)).heap.size (w.alloc (.cells #[.string s.kind, .slice (some ⟨fb, 0, none⟩) s.fields.length s.fields.length] 56)) wr) := hW
    clear hO hW
    by_cases hlt : k < ms.length
    · have hmk := (HA.out.2.1.later HW.out).at_ k hlt
      obtain ⟨m, hmm⟩ : ∃ m, m = ms.getD k Mnd.none := ⟨_, rfl⟩
      rw [← hmm] at hmk
      have HM : Hid (m = ms.getD k Mnd.none ∧ m ∈ ms ∧ m.sized) := ⟨hmm, by rw [hmm]; simp [hlt], hmk.sized⟩
      have hmb : mb < wr.heap.size := Nat.lt_of_lt_of_le HA.out.2.1.lt HW.out.size
      obtain ⟨c0, c1, c2, c3, c4, c5, _⟩ := hmk
      have HS : Hid (mngsTo s.fields ms s.kind (k + 1) = mngsTo s.fields ms s.kind k ++ (if ofKind s.kind m = true then [mngOf s.fields m] else [])) := by have := mngsTo_succ s.fields ms s.kind k hlt; rw [← hmm] at this; exact this
      clear hmm
      cases heq : (m.kind.toList == s.kind.toList)
      · have HS' : Hid (mngsTo s.fields ms s.kind (k + 1) = mngsTo s.fields ms s.kind k) := by show mngsTo _ _ _ _ = _; have := HS.out; rw [show ofKind s.kind m = false from heq] at this; simpa using this
        clear HS
        go_wp2
        go_roundw
        case rel => exact ⟨k + 1, a, c, by omega, by go_num, by rw [HS'.out], by rw [HS'.out]; exact HO.out.later (blw_alloc (Below.refl _ _) _), blw_alloc HWw.out _⟩
        case measure => simp [intOf]; omega
      · have HS' : Hid (mngsTo s.fields ms s.kind (k + 1) = mngsTo s.fields ms s.kind k ++ [mngOf s.fields m]) := by show mngsTo _ _ _ _ = _; have := HS.out; rw [show ofKind s.kind m = true from heq] at this; simpa using this
        have HFd : Hid (found s.fields m) := HA.out.2.2 m HM.out.2.1 heq
        clear HS
        have hbx : Below wr.heap.size wr (wr.alloc (.cells #[.string m.kind, .string m.field, .string m.whn, .string m.is_, .string m.put, .string m.frm] 58)) := blw_alloc (Below.refl _ _) _
        go_wp2_with fail
        refine (mendingOf fb s.fields m _ (HA.out.1.later (blw_trans HW.out hbx)) HM.out.2.2 HFd.out.1 HFd.out.2.1 HFd.out.2.2).mono ?_
        rintro e w2 ⟨⟨a2, n2, c2', rfl, hnd⟩, hb2⟩
        have hB2 : Below wr.heap.size wr w2 := blw_trans hbx hb2
        obtain ⟨xs, hxs1, hxs2⟩ := HO.out.later hB2
        obtain ⟨nf, hnf⟩ : ∃ nf, nf = (mngOf s.fields m).field := ⟨_, rfl⟩
        obtain ⟨nr, hnr⟩ : ∃ nr, nr = (mngOf s.fields m).frm := ⟨_, rfl⟩
        rw [← hnf, ← hnr]
        have HX : Hid (w2.ownsRow (w.heap.size + 1) 103 4 (.slice a (mngsTo s.fields ms s.kind k).length c) (mngsTo s.fields ms s.kind k).length xs ∧ (∀ i, i < (mngsTo s.fields ms s.kind k).length → MngX w2 xs (i * 4) ((mngsTo s.fields ms s.kind k).getD i Mng.none)) ∧ NeedsOwn w2 0 (.slice a2 n2 c2') (mngOf s.fields m).needs ∧ nf = (mngOf s.fields m).field ∧ nr = (mngOf s.fields m).frm) := ⟨hxs1, hxs2, owns_low hnd (Nat.zero_le _), hnf, hnr⟩
        have HB2 : Hid (Below wr.heap.size wr w2) := hB2
        have hle := mngsTo_len s.fields ms s.kind k
        obtain ⟨L, hL⟩ : ∃ L, L = mngsTo s.fields ms s.kind k := ⟨_, rfl⟩
        rw [← hL] at HX HS' HO hle ⊢
        have HLL : Hid (L = mngsTo s.fields ms s.kind k) := hL
        have hs2 : wr.heap.size < w2.heap.size := Nat.lt_of_lt_of_le (by simp) hb2.size
        clear hb2 hnd hB2 hbx hxs1 hxs2 hnf hnr hL c0 c1 c2 c3 c4 c5 k0 k1 hmb
        go_wp2_with (at_builtin; refine wpList_append_own _ rfl _ _ 78 rfl (w.heap.size + 1) 103 i0 (.agg #[.int .i64 0, .slice none 0 0, .string ByteArray.empty, .int .i64 0]) 4 56 Tryz.underlying78 hi hz0 hz1 hz2 rfl (by decide) (.slice a L.length c) L.length xs rfl ?c0 ⟨w2.heap.size, 0, none⟩ 1 1 [.int .i64 (nf : Nat), .slice a2 n2 c2', .string m.put, .int .i64 (nr : Nat)] rfl ?c1 ?c2 ?c3 ?c4 ?c5 ?c6 ?_)
        case c0 => exact owns_later HX.out.1 (blw_alloc (Below.refl _ _) _)
        case c1 => rfl
        case c2 =>
          intro j u hj
          match j, hj with
          | 0, hj => simp at hj; subst hj; simp [Addr.add]
          | 1, hj => simp at hj; subst hj; simp [Addr.add]
          | 2, hj => simp at hj; subst hj; simp [Addr.add]
          | 3, hj => simp at hj; subst hj; simp [Addr.add]
          | k + 4, hj => simp at hj
        case c3 => intro u hu; simp at hu; rcases hu with rfl | rfl | rfl | rfl <;> rfl
        case c4 => unfold maxLen; omega
        case c5 => omega
        case c6 => simp; omega
        intro v' w3 hown hgrow _
        obtain ⟨a3, d3, hv3⟩ := owns_slice hown
        subst hv3
        have hbt : Below w2.heap.size w2 (w2.alloc (.cells #[.int .i64 (nf : Nat), .slice a2 n2 c2', .string m.put, .int .i64 (nr : Nat)] 103)) := blw_alloc (Below.refl _ _) _
        have HN : Hid (MngsOwn w3 (w.heap.size + 1) (.slice a3 (L.length + 1) d3) (L ++ [mngOf s.fields m])) := by
          refine mngsOf_add (w := w2.alloc (.cells #[.int .i64 (nf : Nat), .slice a2 n2 c2', .string m.put, .int .i64 (nr : Nat)] 103)) (owns_later HX.out.1 hbt) (fun i hi => (HX.out.2.1 i hi).later hbt) (owns_later HX.out.2.2.1 hbt) ?_ hgrow
          rw [← HX.out.2.2.2.1, ← HX.out.2.2.2.2]
          exact hown
        have HB3 : Hid (Below (w.alloc (.cells #[.string s.kind, .slice (some ⟨fb, 0, none⟩) s.fields.length s.fields.length] 56)).heap.size (w.alloc (.cells #[.string s.kind, .slice (some ⟨fb, 0, none⟩) s.fields.length s.fields.length] 56)) w3) := by
          refine Below.grown (blw_trans (blw_trans HWw.out HB2.out) hbt) hgrow (blw_trans (blw_trans HWw.out HB2.out) hbt).size (fun q hq => ?_)
          have := (World.ownsRow.lt HX.out.1 q hq).1
          simpa using this
        clear hown hgrow hbt HX
        go_wp2
        go_roundw
        case rel => exact ⟨k + 1, a3, d3, by omega, by go_num, by rw [HS'.out, List.length_append]; rfl, by rw [HS'.out]; exact HN.out, HB3.out⟩
        case measure => simp [intOf]; omega
    · have HE : Hid (mngsTo s.fields ms s.kind k = mngsOf s.fields ms s.kind) := mngsTo_all _ _ _ _ (by omega)
      go_wp2
      go_ret
      refine ⟨⟨a, _, c, rfl, ?_⟩, HW.out⟩
      obtain ⟨xs, x1, x2⟩ := HO.out
      rw [← HE.out]
      exact ⟨xs, owns_low x1 (by omega), x2⟩

end Go.Proofs.YtfdahoekjpobaaaGreat

namespace Go.Proofs.YtfdahoekjpobaaaGreat
open Go.RowKit Go.Deep

def places (x : Mng) : List Nat := x.needs.map Need.place
def rdTo (L : List Mng) (p k : Nat) : List Nat := (L.take k).flatMap fun x => if x.field = p then places x else []
def rdOf (L : List Mng) (p : Nat) : List Nat := L.flatMap fun x => if x.field = p then places x else []

theorem rdTo_succ (L : List Mng) (p k : Nat) (hk : k < L.length) : rdTo L p (k + 1) = rdTo L p k ++ (if (L.getD k Mng.none).field = p then places (L.getD k Mng.none) else []) := by
  have e : L.getD k Mng.none = L[k] := by simp [hk]
  unfold rdTo
  rw [e, List.take_succ_eq_append_getElem hk, List.flatMap_append]
  simp
theorem rdTo_all (L : List Mng) (p k : Nat) (hk : L.length ≤ k) : rdTo L p k = rdOf L p := by unfold rdTo rdOf; rw [List.take_of_length_le hk]

theorem rdTo_len (L : List Mng) (p : Nat) (h2 : ∀ x ∈ L, x.needs.length ≤ 2) : ∀ k, (rdTo L p k).length ≤ 2 * k
  | 0 => by simp [rdTo]
  | k + 1 => by
    have ih := rdTo_len L p h2 k
    by_cases hk : k < L.length
    · rw [rdTo_succ L p k hk, List.length_append]
      have hm : L.getD k Mng.none ∈ L := by simp [hk]
      obtain ⟨y, hy⟩ : ∃ y, y = L.getD k Mng.none := ⟨_, rfl⟩
      rw [← hy] at hm ⊢
      have := h2 _ hm
      split
      · simp [places]; omega
      · simp; omega
    · have e : rdTo L p (k + 1) = rdTo L p k := by unfold rdTo; rw [List.take_of_length_le (by omega), List.take_of_length_le (by omega)]
      rw [e]; omega

/-- Needs that are read. -/
def NeedsAt (w : World) (v : Value) (ns : List Need) : Prop :=
  (ns = [] ∧ ∃ a c, v = .slice a 0 c) ∨ ∃ g c, v = .slice (some ⟨g, 0, none⟩) ns.length c ∧ g < w.heap.size ∧ ∀ i, i < ns.length →
    w.cell? ⟨g, i * 3, none⟩ = some (.int .i64 ((ns.getD i ⟨0, false, ByteArray.empty⟩).place : Nat)) ∧ w.cell? ⟨g, i * 3 + 1, none⟩ = some (.bool (ns.getD i ⟨0, false, ByteArray.empty⟩).anyth) ∧ w.cell? ⟨g, i * 3 + 2, none⟩ = some (.string (ns.getD i ⟨0, false, ByteArray.empty⟩).is_)

theorem NeedsOwn.at_ {w : World} {lo : Nat} {v : Value} {ns : List Need} (h : NeedsOwn w lo v ns) : NeedsAt w v ns := by
  have hcs : ∀ g, v.ownBlock = some g → ∀ j u, (needsCells ns)[j]? = some u → w.cell? ((⟨g, 0, none⟩ : Addr).add j) = some u := fun g hg => World.ownsRow.cells h hg
  rcases h.2 with ⟨rfl, hn⟩ | ⟨g, cap, cur, rfl, _, hg, _⟩
  · exact Or.inl ⟨List.length_eq_zero_iff.1 hn, _, _, rfl⟩
  · refine Or.inr ⟨g, cap, rfl, (Array.getElem?_eq_some_iff.1 hg).1, fun i hi => ?_⟩
    have q : ∀ j u, j < 3 → (needCells (ns.getD i ⟨0, false, ByteArray.empty⟩))[j]? = some u → w.cell? ⟨g, i * 3 + j, none⟩ = some u := by
      intro j u hj hu
      have := hcs g rfl (i * 3 + j) u (by rw [needsCells_at ns i j hi hj]; exact hu)
      rw [Addr.add_lit, Nat.zero_add] at this
      exact this
    exact ⟨q 0 _ (by omega) rfl, q 1 _ (by omega) rfl, q 2 _ (by omega) rfl⟩

theorem NeedsAt.later {w w' : World} {v : Value} {ns : List Need} (h : NeedsAt w v ns) (hb : Below w.heap.size w w') : NeedsAt w' v ns := by
  rcases h with h | ⟨g, c, rfl, h1, h2⟩
  · exact Or.inl h
  · exact Or.inr ⟨g, c, rfl, Nat.lt_of_lt_of_le h1 hb.size, fun i hi => ⟨(hb.cell (p := ⟨g, _, none⟩) h1).trans (h2 i hi).1, (hb.cell (p := ⟨g, _, none⟩) h1).trans (h2 i hi).2.1, (hb.cell (p := ⟨g, _, none⟩) h1).trans (h2 i hi).2.2⟩⟩

structure MngIs (w : World) (g o : Nat) (x : Mng) (a : Option Addr) (c : Nat) : Prop where
  c0 : w.cell? ⟨g, o, none⟩ = some (.int .i64 (x.field : Nat))
  c1 : w.cell? ⟨g, o + 1, none⟩ = some (.slice a x.needs.length c)
  c2 : w.cell? ⟨g, o + 2, none⟩ = some (.string x.put)
  c3 : w.cell? ⟨g, o + 3, none⟩ = some (.int .i64 (x.frm : Nat))
  needs : NeedsAt w (.slice a x.needs.length c) x.needs

theorem MngIs.later {w w' : World} {g o : Nat} {x : Mng} {a : Option Addr} {c : Nat} (h : MngIs w g o x a c) (hb : Below w.heap.size w w') (hlt : g < w.heap.size) : MngIs w' g o x a c := by
  have q : ∀ j, w'.cell? ⟨g, j, none⟩ = w.cell? ⟨g, j, none⟩ := fun j => hb.cell (p := ⟨g, j, none⟩) hlt
  exact ⟨(q _).trans h.c0, (q _).trans h.c1, (q _).trans h.c2, (q _).trans h.c3, h.needs.later hb⟩

def MngsAt (w : World) (v : Value) (L : List Mng) : Prop :=
  (L = [] ∧ ∃ a c, v = .slice a 0 c) ∨ ∃ g c, v = .slice (some ⟨g, 0, none⟩) L.length c ∧ g < w.heap.size ∧ ∀ i, i < L.length → ∃ a d, MngIs w g (i * 4) (L.getD i Mng.none) a d

theorem MngsAt.later {w w' : World} {v : Value} {L : List Mng} (h : MngsAt w v L) (hb : Below w.heap.size w w') : MngsAt w' v L := by
  rcases h with h | ⟨g, c, rfl, h1, h2⟩
  · exact Or.inl h
  · refine Or.inr ⟨g, c, rfl, Nat.lt_of_lt_of_le h1 hb.size, fun i hi => ?_⟩
    obtain ⟨a, d, h3⟩ := h2 i hi
    exact ⟨a, d, h3.later hb h1⟩

theorem MngsOwn.at_ {w : World} {lo : Nat} {v : Value} {L : List Mng} (h : MngsOwn w lo v L) : MngsAt w v L := by
  obtain ⟨xs, h1, h2⟩ := h
  have hcs : ∀ g, v.ownBlock = some g → ∀ j u, xs[j]? = some u → w.cell? ((⟨g, 0, none⟩ : Addr).add j) = some u := fun g hg => World.ownsRow.cells h1 hg
  rcases h1.2 with ⟨rfl, hn⟩ | ⟨g, cap, cur, rfl, _, hg, _⟩
  · exact Or.inl ⟨List.length_eq_zero_iff.1 hn, _, _, rfl⟩
  · refine Or.inr ⟨g, cap, rfl, (Array.getElem?_eq_some_iff.1 hg).1, fun i hi => ?_⟩
    obtain ⟨a, c, q0, q1, q2, q3, q4⟩ := h2 i hi
    have q : ∀ j u, xs[j]? = some u → w.cell? ⟨g, j, none⟩ = some u := by
      intro j u hu
      have := hcs g rfl j u hu
      rw [Addr.add_lit, Nat.zero_add] at this
      exact this
    exact ⟨a, c, q _ _ q0, q _ _ q1, q _ _ q2, q _ _ q3, q4.at_⟩

theorem IntsOwn.later {w w' : World} {lo : Nat} {v : Value} {l : List Nat} (h : IntsOwn w lo v l) (hb : Below w.heap.size w w') : IntsOwn w' lo v l := owns_later h hb

set_option maxRecDepth 8000 in
set_option maxHeartbeats 4000000 in
theorem readsI_row (mb g cap p : Nat) (L : List Mng) (w : World) (hc : w.cell? ⟨mb, 0, none⟩ = some (.slice (some ⟨g, 0, none⟩) L.length cap)) (hg : g < w.heap.size) (hL : ∀ i, i < L.length → ∃ a d, MngIs w g (i * 4) (L.getD i Mng.none) a d) (hl : L.length ≤ 12) (h2 : ∀ x ∈ L, x.needs.length ≤ 2) :
    Calls Tryz.prog 71 #[.int .i64 (p : Nat), .pointer (some ⟨mb, 0, none⟩)] w fun e w' => (∃ a n c, e = .returned (.slice a n c) ∧ IntsAt w' (.slice a n c) (rdOf L p)) ∧ Below w.heap.size w w' := by
  have HL : Hid ((∀ i, i < L.length → ∃ a d, MngIs w g (i * 4) (L.getD i Mng.none) a d) ∧ ∀ x ∈ L, x.needs.length ≤ 2) := ⟨hL, h2⟩
  obtain ⟨i0, hi, hz0, hz1, hz2⟩ := info_parts Tryz.info3
  clear hL h2
  go_enter Tryz.func71, Tryz.ntmps71
  go_wp2
  clear hc
  go_loopw [4, 11] (fun v i wr => ∃ (k : Nat) (a : Option Addr) (c : Nat), k ≤ L.length ∧ i = .int .i64 k ∧ v = .slice a (rdTo L p k).length c ∧ IntsOwn wr w.heap.size v (rdTo L p k) ∧ Below w.heap.size w wr) (fun _ i _ => L.length - (intOf i).toNat)
  case atStart => exact ⟨0, none, 0, Nat.zero_le _, rfl, rfl, World.ownsRow_nil _ _ _ _, Below.refl _ _⟩
  case round =>
    obtain ⟨k, a, c, hk, rfl, rfl, hO, hW⟩ := hrel
    have HO : Hid (IntsOwn wr w.heap.size (.slice a (rdTo L p k).length c) (rdTo L p k)) := hO
    have HW : Hid (Below w.heap.size w wr) := hW
    have HT : Hid ((rdTo L p k).length ≤ 2 * k) := rdTo_len L p HL.out.2 k
    clear hO
    by_cases hlt : k < L.length
    · obtain ⟨ax, dx, hx0⟩ := HL.out.1 k hlt
      obtain ⟨x, hxx⟩ : ∃ x, x = L.getD k Mng.none := ⟨_, rfl⟩
      rw [← hxx] at hx0
      have hx := hx0.later hW hg
      have HX : Hid (x = L.getD k Mng.none ∧ x.needs.length ≤ 2) := ⟨hxx, HL.out.2 x (by rw [hxx]; simp [hlt])⟩
      have HS : Hid (rdTo L p (k + 1) = rdTo L p k ++ (if x.field = p then places x else [])) := by have := rdTo_succ L p k hlt; rw [← hxx] at this; exact this
      have hgw : g < wr.heap.size := Nat.lt_of_lt_of_le hg hW.size
      obtain ⟨c0, c1, c2, c3, _⟩ := hx
      have HND : Hid (NeedsAt w (.slice ax x.needs.length dx) x.needs) := hx0.needs
      clear hxx hx0 hW
      by_cases heq : (x.field : Int) = (p : Int)
      · have HS' : Hid (rdTo L p (k + 1) = rdTo L p k ++ places x) := by have := HS.out; rw [if_pos (by omega)] at this; exact this
        clear HS
        have hn2 : x.needs.length ≤ 2 := HX.out.2
        go_wp2
        clear c0 c1 c2 c3
        obtain ⟨l, hll⟩ : ∃ l, l = rdTo L p k := ⟨_, rfl⟩
        rw [← hll] at HS' HO HT ⊢
        clear hll
        go_loopw [4, 22] (fun v i wq => ∃ (j : Nat) (a : Option Addr) (c : Nat), j ≤ x.needs.length ∧ i = .int .i64 j ∧ v = .slice a (l ++ (places x).take j).length c ∧ IntsOwn wq w.heap.size v (l ++ (places x).take j) ∧ Below w.heap.size w wq) (fun _ i _ => x.needs.length - (intOf i).toNat)
        case atStart => exact ⟨0, a, c, Nat.zero_le _, rfl, by simp, by simpa using HO.out.later (blw_alloc (Below.refl _ _) _), blw_alloc HW.out _⟩
        case round =>
          obtain ⟨j, aj, cj, hj, rfl, rfl, hOj, hWj⟩ := hrel
          rename World => wq
          have HOj : Hid (IntsOwn wq w.heap.size (.slice aj (l ++ (places x).take j).length cj) (l ++ (places x).take j)) := hOj
          have HWj : Hid (Below w.heap.size w wq) := hWj
          have HTj : Hid ((l ++ (places x).take j).length ≤ 2 * k + 2) := by show (l ++ (places x).take j).length ≤ 2 * k + 2; have := HT.out; rw [List.length_append, List.length_take]; simp [places]; omega
          clear hOj
          by_cases hjl : j < x.needs.length
          · rcases HND.out with ⟨e0, _⟩ | ⟨g2, c2, e0, hg2, hcs⟩
            · rw [e0] at hjl; exact absurd hjl (Nat.not_lt_zero j)
            injection e0 with e1 e2 e3
            subst e1 e3
            obtain ⟨d0, d1, d2⟩ := hcs j hjl
            have d0 := (hWj.cell (p := ⟨g2, j * 3, none⟩) hg2).trans d0
            have d1 := (hWj.cell (p := ⟨g2, j * 3 + 1, none⟩) hg2).trans d1
            have d2 := (hWj.cell (p := ⟨g2, j * 3 + 2, none⟩) hg2).trans d2
            obtain ⟨y, hy⟩ : ∃ y, y = x.needs.getD j ⟨0, false, ByteArray.empty⟩ := ⟨_, rfl⟩
            rw [← hy] at d0 d1 d2
            have hgq : g2 < wq.heap.size := Nat.lt_of_lt_of_le hg2 hWj.size
            have HP : Hid (l ++ (places x).take (j + 1) = (l ++ (places x).take j) ++ [y.place]) := by
              show l ++ (places x).take (j + 1) = (l ++ (places x).take j) ++ [y.place]
              have hjp : j < (places x).length := by simpa [places] using hjl
              rw [List.take_succ_eq_append_getElem hjp, ← List.append_assoc]
              congr 2
              simp [places, hy, hjl]
            obtain ⟨lj, hlj⟩ : ∃ lj, lj = l ++ (places x).take j := ⟨_, rfl⟩
            rw [← hlj] at HP HOj HTj ⊢
            have hlen : lj.length ≤ 2 * k + 2 := HTj.out
            have HWw : Hid (Below w.heap.size w wq) := HWj.out
            have hsz := HWw.out.size
            clear hlj hy hcs hWj
            go_wp2_with (at_builtin; refine wpList_append_own _ rfl _ _ 75 rfl w.heap.size 3 i0 (.int .i64 0) 1 8 Tryz.underlying75 hi hz0 hz1 hz2 rfl (by decide) (.slice aj lj.length cj) lj.length (lj.map fun n => Value.int .i64 (n : Nat)) rfl ?c0 ⟨wq.heap.size + 1, 0, none⟩ 1 1 [.int .i64 (y.place : Nat)] rfl ?c1 ?c2 ?c3 ?c4 ?c5 ?c6 ?_)
            case c0 => exact HOj.out.later (blw_alloc (blw_alloc (Below.refl _ _) _) _)
            case c3 => rfl
            case c4 => unfold maxLen; omega
            case c5 => omega
            case c6 => omega
            intro v' w3 hown hgrow _
            obtain ⟨a3, d3, hv3⟩ := owns_slice hown
            subst hv3
            have HN : Hid (IntsOwn w3 w.heap.size (.slice a3 (lj.length + 1) d3) (lj ++ [y.place])) := by
              show w3.ownsRow _ _ _ _ _ _
              rw [List.length_append, List.map_append]
              exact hown
            have HB3 : Hid (Below w.heap.size w w3) := Below.grown (blw_alloc (blw_alloc HWj.out _) _) hgrow (blw_alloc (blw_alloc HWj.out _) _).size (fun q hq => (World.ownsRow.lt HOj.out q hq).1)
            clear hown hgrow
            go_wp2
            go_roundw
            case rel => exact ⟨j + 1, a3, d3, by omega, by go_num, by rw [HP.out, List.length_append]; rfl, by rw [HP.out]; exact HN.out, HB3.out⟩
            case measure => simp [intOf]; omega
          · have HE : Hid (rdTo L p (k + 1) = l ++ (places x).take j) := by
              show rdTo L p (k + 1) = _
              rw [HS'.out, List.take_of_length_le (by simp [places]; omega)]
            go_wp2
            go_roundw
            case rel => first | exact ⟨k + 1, aj, cj, by omega, by go_num, by rw [HE.out], by rw [HE.out]; exact HOj.out, HWj.out⟩ | ((repeat apply Exists.intro); exact ⟨⟨k + 1, aj, cj, by omega, by go_num, by rw [HE.out], by rw [HE.out]; exact HOj.out, HWj.out⟩, rfl⟩)
            case measure => simp [intOf]; omega
      · have HS' : Hid (rdTo L p (k + 1) = rdTo L p k) := by show rdTo _ _ _ = _; have := HS.out; rw [if_neg (by omega)] at this; simpa using this
        clear HS
        go_wp2
        go_roundw
        case rel => exact ⟨k + 1, a, c, by omega, by go_num, by rw [HS'.out], by rw [HS'.out]; exact HO.out.later (blw_alloc (Below.refl _ _) _), blw_alloc HW.out _⟩
        case measure => simp [intOf]; omega
    · have HE : Hid (rdTo L p k = rdOf L p) := rdTo_all _ _ _ (by omega)
      go_wp2
      go_ret
      refine ⟨⟨a, _, c, rfl, ?_⟩, HW.out⟩
      rw [← HE.out]
      exact HO.out.at_ (by have := HT.out; omega)

set_option maxHeartbeats 400000 in
theorem readsI_nil (mb p : Nat) (a : Option Addr) (c : Nat) (w : World) (hc : w.cell? ⟨mb, 0, none⟩ = some (.slice a 0 c)) :
    Calls Tryz.prog 71 #[.int .i64 (p : Nat), .pointer (some ⟨mb, 0, none⟩)] w fun e w' => e = .returned (.slice none 0 0) ∧ w = w' := by
  go_enter Tryz.func71, Tryz.ntmps71
  go_wp2
  refine wp_loop_rounds 1 ?_
  rw [rounds_succ]
  go_wp2
  go_ret
  exact ⟨rfl, rfl⟩

theorem readsI (mb p : Nat) (v : Value) (L : List Mng) (w : World) (hc : w.cell? ⟨mb, 0, none⟩ = some v) (h : MngsAt w v L) (hl : L.length ≤ 12) (h2 : ∀ x ∈ L, x.needs.length ≤ 2) :
    Calls Tryz.prog 71 #[.int .i64 (p : Nat), .pointer (some ⟨mb, 0, none⟩)] w fun e w' => (∃ a n c, e = .returned (.slice a n c) ∧ IntsAt w' (.slice a n c) (rdOf L p)) ∧ Below w.heap.size w w' := by
  rcases h with ⟨rfl, a, c, rfl⟩ | ⟨g, c, rfl, h1, h3⟩
  · refine (readsI_nil mb p a c w hc).mono ?_
    rintro e w' ⟨rfl, rfl⟩
    exact ⟨⟨_, _, _, rfl, Or.inl ⟨rfl, _, _, rfl⟩⟩, Below.refl _ _⟩
  · exact readsI_row mb g c p L w hc h1 h3 hl h2

theorem make_ints (n : Nat) (h : n ≤ 1048576) (W : World) :
    (Instr.makeSlice 75 (.int .i64 (n : Int)) (.int .i64 (n : Int))).run Tryz.prog W = .ok (.slice (some ⟨W.heap.size, 0, none⟩) n n) (W.alloc (.cells (madeCells #[.int .i64 0] n) 3)) :=
  run_make_row' 75 3 (.int .i64 0) 8 Tryz.underlying75 Tryz.info3 rfl .i64 .i64 n (by omega) (by omega) W

theorem put_ints (cs : Array Value) (n k : Nat) (hsz : cs.size = n) (hk : k < n) (h : ∀ j, j < k → cs[j]? = some (.int .i64 (j : Nat))) :
    (cs.setIfInBounds k (.int .i64 (k : Nat))).size = n ∧ ∀ j, j < k + 1 → (cs.setIfInBounds k (.int .i64 (k : Nat)))[j]? = some (.int .i64 (j : Nat)) := by
  refine ⟨by simpa using hsz, fun j hj => ?_⟩
  rw [Array.getElem?_setIfInBounds]
  by_cases e : k = j
  · subst e; rw [if_pos rfl, if_pos (by omega)]
  · rw [if_neg e]; exact h j (by omega)

end Go.Proofs.YtfdahoekjpobaaaGreat
