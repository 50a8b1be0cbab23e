/-
  Walks: the mends of a shape.
-/
import Derived.Test.YtliaibdbcaglnaaGreatWalkMF
namespace Go.Proofs.YtliaibdbcaglnaaGreat
open Go.RowKit Go.Deep

theorem Tryz.info185 : (Tryz.prog.info? 185).map (fun i => (i.zero, i.size, i.bytes)) = some (some (.agg #[.int .i64 0, .slice none 0 0, .string ByteArray.empty, .int .i64 0]), 4, 56) := by kernel_rfl

/-- A mending among the cells of a row. -/
def MngX (w : World) (xs : List Value) (o : Nat) (x : Mng) : Prop :=
  ∃ a c, xs[o]? = some (.int .i64 (x.field : Nat)) ∧ xs[o + 1]? = some (.slice a x.needs.length c) ∧ xs[o + 2]? = some (.string x.put) ∧ xs[o + 3]? = some (.int .i64 (x.frm : Nat)) ∧ NeedsOwn w 0 (.slice a x.needs.length c) x.needs

def MngsOwn (w : World) (lo : Nat) (v : Value) (L : List Mng) : Prop :=
  ∃ xs, w.ownsRow lo 185 4 v L.length xs ∧ ∀ i, i < L.length → MngX w xs (i * 4) (L.getD i Mng.none)

theorem MngX.later {w w' : World} {xs : List Value} {o : Nat} {x : Mng} (h : MngX w xs o x) (hb : Below w.heap.size w w') : MngX w' xs o x := by
  obtain ⟨a, c, h0, h1, h2, h3, h4⟩ := h
  exact ⟨a, c, h0, h1, h2, h3, owns_later h4 hb⟩

theorem MngsOwn.later {w w' : World} {lo : Nat} {v : Value} {L : List Mng} (h : MngsOwn w lo v L) (hb : Below w.heap.size w w') : MngsOwn w' lo v L := by
  obtain ⟨xs, h1, h2⟩ := h
  exact ⟨xs, owns_later h1 hb, fun i hi => (h2 i hi).later hb⟩

theorem MngsOwn.nil (w : World) (lo : Nat) : MngsOwn w lo (.slice none 0 0) [] := ⟨[], World.ownsRow_nil _ _ _ _, fun i hi => absurd hi (Nat.not_lt_zero i)⟩

theorem MngX.snoc {w : World} {xs : List Value} {o : Nat} {x : Mng} (h : MngX w xs o x) (ys : List Value) : MngX w (xs ++ ys) o x := by
  obtain ⟨a, c, h0, h1, h2, h3, h4⟩ := h
  have q : ∀ {j : Nat} {u : Value}, xs[j]? = some u → (xs ++ ys)[j]? = some u := fun {j u} hj => by
    rw [List.getElem?_append_left (List.getElem?_eq_some_iff.1 hj).1]; exact hj
  exact ⟨a, c, q h0, q h1, q h2, q h3, h4⟩

theorem MngX.grown {w w' : World} {xs : List Value} {o : Nat} {x : Mng} (h : MngX w xs o x) {lo n : Nat} {v : Value} {ys : List Value} (ho : w.ownsRow lo 185 4 v n ys) (hg : w.grownBy w' v.ownBlock) : MngX w' xs o x := by
  obtain ⟨a, c, h0, h1, h2, h3, h4⟩ := h
  exact ⟨a, c, h0, h1, h2, h3, owns_grown h4 ho (by decide) hg⟩

theorem mngsOf_add {w w' : World} {lo : Nat} {v v' : Value} {L : List Mng} {x : Mng} {xs : List Value} (h : w.ownsRow lo 185 4 v L.length xs) (hx : ∀ i, i < L.length → MngX w xs (i * 4) (L.getD i Mng.none)) {a : Option Addr} {n c : Nat} (hn : NeedsOwn w 0 (.slice a n c) x.needs)
    (ho : w'.ownsRow lo 185 4 v' (L.length + 1) (xs ++ [.int .i64 (x.field : Nat), .slice a n c, .string x.put, .int .i64 (x.frm : Nat)])) (hg : w.grownBy w' v.ownBlock) : MngsOwn w' lo v' (L ++ [x]) := by
  have hlen : n = x.needs.length := by obtain ⟨a', c', e⟩ := owns_slice hn; injection e
  subst hlen
  have hl : xs.length = L.length * 4 := h.1
  refine ⟨_, by rw [List.length_append]; exact ho, fun i hi => ?_⟩
  rw [List.length_append, List.length_singleton] at hi
  by_cases hik : i < L.length
  · have e : (L ++ [x]).getD i Mng.none = L.getD i Mng.none := by simp [hik, List.getElem?_append_left hik]
    rw [e]
    exact ((hx i hik).grown h hg).snoc _
  · obtain rfl : i = L.length := by omega
    have e : (L ++ [x]).getD L.length Mng.none = x := by simp
    rw [e]
    have q : ∀ j, (xs ++ [.int .i64 (x.field : Nat), .slice a x.needs.length c, .string x.put, .int .i64 (x.frm : Nat)])[L.length * 4 + j]? = [Value.int .i64 (x.field : Nat), .slice a x.needs.length c, .string x.put, .int .i64 (x.frm : Nat)][j]? := fun j => by
      rw [List.getElem?_append_right (by omega)]
      congr 1
      omega
    exact ⟨a, c, q 0, q 1, q 2, q 3, owns_grown hn h (by decide) hg⟩

def found (fs : List Fld) (m : Mnd) : Prop := nameAt fs m.field < fs.length ∧ (Pl.isEmp m.whn = false → nameAt fs m.whn < fs.length) ∧ (Pl.isEmp m.frm = false → nameAt fs m.frm < fs.length)
def ofKind (K : ByteArray) (m : Mnd) : Bool := m.kind.toList == K.toList
def mngsTo (fs : List Fld) (ms : List Mnd) (K : ByteArray) (k : Nat) : List Mng := ((ms.take k).filter (ofKind K)).map (mngOf fs)
def mngsOf (fs : List Fld) (ms : List Mnd) (K : ByteArray) : List Mng := (ms.filter (ofKind K)).map (mngOf fs)

theorem mngsTo_len (fs : List Fld) (ms : List Mnd) (K : ByteArray) (k : Nat) : (mngsTo fs ms K k).length ≤ ms.length := by
  unfold mngsTo
  rw [List.length_map]
  exact Nat.le_trans (List.length_filter_le _ _) (by rw [List.length_take]; omega)

theorem mngsTo_succ (fs : List Fld) (ms : List Mnd) (K : ByteArray) (k : Nat) (hk : k < ms.length) : mngsTo fs ms K (k + 1) = mngsTo fs ms K k ++ (if ofKind K (ms.getD k Mnd.none) = true then [mngOf fs (ms.getD k Mnd.none)] else []) := by
  have e : ms.getD k Mnd.none = ms[k] := by simp [hk]
  unfold mngsTo
  rw [e, List.take_succ_eq_append_getElem hk, List.filter_append, List.map_append]
  congr 1
  by_cases h : ofKind K ms[k] = true
  · simp [h]
  · simp [h]

theorem mngsTo_all (fs : List Fld) (ms : List Mnd) (K : ByteArray) (k : Nat) (hk : ms.length ≤ k) : mngsTo fs ms K k = mngsOf fs ms K := by
  unfold mngsTo mngsOf; rw [List.take_of_length_le hk]

set_option maxRecDepth 8000 in
set_option maxHeartbeats 4000000 in
theorem mendingsOf (s : Shp) (fb mb : Nat) (ms : List Mnd) (w : World) (h : FldsIn w fb s.fields) (hm : MndsIn w mb ms) (hok : ∀ m ∈ ms, ofKind s.kind m = true → found s.fields m) :
    Calls Tryz.prog 66 #[.agg #[.string s.kind, .slice (some ⟨fb, 0, none⟩) s.fields.length s.fields.length], .slice (some ⟨mb, 0, none⟩) ms.length ms.length] w fun e w' =>
      (∃ a n c, e = .returned (.slice a n c) ∧ MngsOwn w' w.heap.size (.slice a n c) (mngsOf s.fields ms s.kind)) ∧ Below w.heap.size w w' := by
  have hl := hm.len
  have HA : Hid (FldsIn w fb s.fields ∧ MndsIn w mb ms ∧ ∀ m ∈ ms, ofKind s.kind m = true → found s.fields m) := ⟨h, hm, hok⟩
  obtain ⟨i0, hi, hz0, hz1, hz2⟩ := info_parts Tryz.info185
  clear h hm hok
  have HB0 : Hid (Below w.heap.size w (w.alloc (.cells #[.string s.kind, .slice (some ⟨fb, 0, none⟩) s.fields.length s.fields.length] 96))) := blw_alloc (Below.refl _ _) _
  go_enter Tryz.func66, Tryz.ntmps66
  go_wp2
  go_loopw [5, 10] (fun v i wr => ∃ (k : Nat) (a : Option Addr) (c : Nat), k ≤ ms.length ∧ i = .int .i64 k ∧ v = .slice a (mngsTo s.fields ms s.kind k).length c ∧ MngsOwn wr (w.heap.size + 1) v (mngsTo s.fields ms s.kind k) ∧ Below (w.alloc (.cells #[.string s.kind, .slice (some ⟨fb, 0, none⟩) s.fields.length s.fields.length] 96)).heap.size (w.alloc (.cells #[.string s.kind, .slice (some ⟨fb, 0, none⟩) s.fields.length s.fields.length] 96)) wr) (fun _ i _ => ms.length - (intOf i).toNat)
  case atStart => exact ⟨0, none, 0, Nat.zero_le _, rfl, rfl, MngsOwn.nil _ _, Below.refl _ _⟩
  case round =>
    obtain ⟨k, a, c, hk, rfl, rfl, hO, hW⟩ := hrel
    have HO : Hid (MngsOwn wr (w.heap.size + 1) (.slice a (mngsTo s.fields ms s.kind k).length c) (mngsTo s.fields ms s.kind k)) := hO
    have HW : Hid (Below w.heap.size w wr) := blw_trans HB0.out hW
    have hs1 : w.heap.size < wr.heap.size := Nat.lt_of_lt_of_le (by simp) hW.size
    have k0 : wr.cell? ⟨w.heap.size, 0, none⟩ = some (.string s.kind) := (hW.cell (p := ⟨w.heap.size, 0, none⟩) (by simp)).trans (by simp)
    have k1 : wr.cell? ⟨w.heap.size, 1, none⟩ = some (.slice (some ⟨fb, 0, none⟩) s.fields.length s.fields.length) := (hW.cell (p := ⟨w.heap.size, 1, none⟩) (by simp)).trans (by simp)
    have HWw : Hid (Below (w.alloc (.cells #[.string s.kind, .slice (some ⟨fb, 0, none⟩) s.fields.length s.fields.length] 96)).heap.size (w.alloc (.cells #[.string s.kind, .slice (some ⟨fb, 0, none⟩) s.fields.length s.fields.length] 96)) wr) := hW
    clear hO hW
    by_cases hlt : k < ms.length
    · have hmk := (HA.out.2.1.later HW.out).at_ k hlt
      obtain ⟨m, hmm⟩ : ∃ m, m = ms.getD k Mnd.none := ⟨_, rfl⟩
      rw [← hmm] at hmk
      have HM : Hid (m = ms.getD k Mnd.none ∧ m ∈ ms ∧ m.sized) := ⟨hmm, by rw [hmm]; simp [hlt], hmk.sized⟩
      have hmb : mb < wr.heap.size := Nat.lt_of_lt_of_le HA.out.2.1.lt HW.out.size
      obtain ⟨c0, c1, c2, c3, c4, c5, _⟩ := hmk
      have HS : Hid (mngsTo s.fields ms s.kind (k + 1) = mngsTo s.fields ms s.kind k ++ (if ofKind s.kind m = true then [mngOf s.fields m] else [])) := by have := mngsTo_succ s.fields ms s.kind k hlt; rw [← hmm] at this; exact this
      clear hmm
      cases heq : (m.kind.toList == s.kind.toList)
      · have HS' : Hid (mngsTo s.fields ms s.kind (k + 1) = mngsTo s.fields ms s.kind k) := by show mngsTo _ _ _ _ = _; have := HS.out; rw [show ofKind s.kind m = false from heq] at this; simpa using this
        clear HS
        go_wp2
        go_roundw
        case rel => exact ⟨k + 1, a, c, by omega, by go_num, by rw [HS'.out], by rw [HS'.out]; exact HO.out.later (blw_alloc (Below.refl _ _) _), blw_alloc HWw.out _⟩
        case measure => simp [intOf]; omega
      · have HS' : Hid (mngsTo s.fields ms s.kind (k + 1) = mngsTo s.fields ms s.kind k ++ [mngOf s.fields m]) := by show mngsTo _ _ _ _ = _; have := HS.out; rw [show ofKind s.kind m = true from heq] at this; simpa using this
        have HFd : Hid (found s.fields m) := HA.out.2.2 m HM.out.2.1 heq
        clear HS
        have hbx : Below wr.heap.size wr (wr.alloc (.cells #[.string m.kind, .string m.field, .string m.whn, .string m.is_, .string m.put, .string m.frm] 91)) := blw_alloc (Below.refl _ _) _
        go_wp2_with fail
        refine (mendingOf fb s.fields m _ (HA.out.1.later (blw_trans HW.out hbx)) HM.out.2.2 HFd.out.1 HFd.out.2.1 HFd.out.2.2).mono ?_
        rintro e w2 ⟨⟨a2, n2, c2', rfl, hnd⟩, hb2⟩
        have hB2 : Below wr.heap.size wr w2 := blw_trans hbx hb2
        obtain ⟨xs, hxs1, hxs2⟩ := HO.out.later hB2
        obtain ⟨nf, hnf⟩ : ∃ nf, nf = (mngOf s.fields m).field := ⟨_, rfl⟩
        obtain ⟨nr, hnr⟩ : ∃ nr, nr = (mngOf s.fields m).frm := ⟨_, rfl⟩
        rw [← hnf, ← hnr]
        have HX : Hid (w2.ownsRow (w.heap.size + 1) 185 4 (.slice a (mngsTo s.fields ms s.kind k).length c) (mngsTo s.fields ms s.kind k).length xs ∧ (∀ i, i < (mngsTo s.fields ms s.kind k).length → MngX w2 xs (i * 4) ((mngsTo s.fields ms s.kind k).getD i Mng.none)) ∧ NeedsOwn w2 0 (.slice a2 n2 c2') (mngOf s.fields m).needs ∧ nf = (mngOf s.fields m).field ∧ nr = (mngOf s.fields m).frm) := ⟨hxs1, hxs2, owns_low hnd (Nat.zero_le _), hnf, hnr⟩
        have HB2 : Hid (Below wr.heap.size wr w2) := hB2
        have hle := mngsTo_len s.fields ms s.kind k
        obtain ⟨L, hL⟩ : ∃ L, L = mngsTo s.fields ms s.kind k := ⟨_, rfl⟩
        rw [← hL] at HX HS' HO hle ⊢
        have HLL : Hid (L = mngsTo s.fields ms s.kind k) := hL
        have hs2 : wr.heap.size < w2.heap.size := Nat.lt_of_lt_of_le (by simp) hb2.size
        clear hb2 hnd hB2 hbx hxs1 hxs2 hnf hnr hL c0 c1 c2 c3 c4 c5 k0 k1 hmb
        go_wp2_with (at_builtin; refine wpList_append_own _ rfl _ _ 110 rfl (w.heap.size + 1) 185 i0 (.agg #[.int .i64 0, .slice none 0 0, .string ByteArray.empty, .int .i64 0]) 4 56 Tryz.underlying110 hi hz0 hz1 hz2 rfl (by decide) (.slice a L.length c) L.length xs rfl ?c0 ⟨w2.heap.size, 0, none⟩ 1 1 [.int .i64 (nf : Nat), .slice a2 n2 c2', .string m.put, .int .i64 (nr : Nat)] rfl ?c1 ?c2 ?c3 ?c4 ?c5 ?c6 ?_)
        case c0 => exact owns_later HX.out.1 (blw_alloc (Below.refl _ _) _)
        case c1 => rfl
        case c2 =>
          intro j u hj
          match j, hj with
          | 0, hj => simp at hj; subst hj; simp [Addr.add]
          | 1, hj => simp at hj; subst hj; simp [Addr.add]
          | 2, hj => simp at hj; subst hj; simp [Addr.add]
          | 3, hj => simp at hj; subst hj; simp [Addr.add]
          | k + 4, hj => simp at hj
        case c3 => intro u hu; simp at hu; rcases hu with rfl | rfl | rfl | rfl <;> rfl
        case c4 => unfold maxLen; omega
        case c5 => omega
        case c6 => simp; omega
        intro v' w3 hown hgrow _
        obtain ⟨a3, d3, hv3⟩ := owns_slice hown
        subst hv3
        have hbt : Below w2.heap.size w2 (w2.alloc (.cells #[.int .i64 (nf : Nat), .slice a2 n2 c2', .string m.put, .int .i64 (nr : Nat)] 185)) := blw_alloc (Below.refl _ _) _
        have HN : Hid (MngsOwn w3 (w.heap.size + 1) (.slice a3 (L.length + 1) d3) (L ++ [mngOf s.fields m])) := by
          refine mngsOf_add (w := w2.alloc (.cells #[.int .i64 (nf : Nat), .slice a2 n2 c2', .string m.put, .int .i64 (nr : Nat)] 185)) (owns_later HX.out.1 hbt) (fun i hi => (HX.out.2.1 i hi).later hbt) (owns_later HX.out.2.2.1 hbt) ?_ hgrow
          rw [← HX.out.2.2.2.1, ← HX.out.2.2.2.2]
          exact hown
        have HB3 : Hid (Below (w.alloc (.cells #[.string s.kind, .slice (some ⟨fb, 0, none⟩) s.fields.length s.fields.length] 96)).heap.size (w.alloc (.cells #[.string s.kind, .slice (some ⟨fb, 0, none⟩) s.fields.length s.fields.length] 96)) w3) := by
          refine Below.grown (blw_trans (blw_trans HWw.out HB2.out) hbt) hgrow (blw_trans (blw_trans HWw.out HB2.out) hbt).size (fun q hq => ?_)
          have := (World.ownsRow.lt HX.out.1 q hq).1
          simpa using this
        clear hown hgrow hbt HX
        go_wp2
        go_roundw
        case rel => exact ⟨k + 1, a3, d3, by omega, by go_num, by rw [HS'.out, List.length_append]; rfl, by rw [HS'.out]; exact HN.out, HB3.out⟩
        case measure => simp [intOf]; omega
    · have HE : Hid (mngsTo s.fields ms s.kind k = mngsOf s.fields ms s.kind) := mngsTo_all _ _ _ _ (by omega)
      go_wp2
      go_ret
      refine ⟨⟨a, _, c, rfl, ?_⟩, HW.out⟩
      obtain ⟨xs, x1, x2⟩ := HO.out
      rw [← HE.out]
      exact ⟨xs, owns_low x1 (by omega), x2⟩

end Go.Proofs.YtliaibdbcaglnaaGreat
