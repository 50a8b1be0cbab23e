/-
  Stewards: the map of places: keys of a number and a text; what a store, a look-up do; the program's stewPlaces.
-/
import Derived.DeepKeys4
import Derived.Test.YtclagbakddkjcaaGreatStB
namespace Go.Proofs.YtclagbakddkjcaaGreat
open Go.RowKit Go.Deep

theorem key_law : WideMaps.KeyLaw Tryz.prog 128 := deep_law_laid (m := 3) (by kernel_rfl) (by decide) (by decide +kernel) (by kernel_rfl) (by kernel_rfl)
theorem key_type : Tryz.prog.keyType 128 = true := by kernel_rfl
theorem cells9 : Tryz.prog.cellsOf 9 = 1 := by kernel_rfl
theorem cellsSort : Tryz.prog.cellsOf 126 = 1 := by kernel_rfl
theorem cellsKey : Tryz.prog.cellsOf 128 = 2 := by kernel_rfl
theorem tsz : decide (0 < Tryz.prog.types.size) = true := by kernel_rfl

/-- A key: which list, and the name. -/
def pk (s : Bool) (nm : ByteArray) : Value := .agg #[.int .i64 (if s then 1 else 0), .string nm]
theorem pk_inj {s t : Bool} {a b : ByteArray} (h : pk s a = pk t b) : s = t ∧ a = b := by
  unfold pk at h
  injection h with h
  have h0 := congrArg (fun a : Array Value => a[0]?) h
  have h1 := congrArg (fun a : Array Value => a[1]?) h
  simp at h0 h1
  refine ⟨?_, h1⟩
  cases s <;> cases t <;> simp_all
theorem formed_pk (s : Bool) (b : ByteArray) : Value.formed Tryz.prog 128 (pk s b) = true := by cases s <;> kernel_rfl
theorem lits_pk (d : Nat) (s : Bool) (b : ByteArray) (hb : b.size ≤ maxLen) : ∃ l, Tryz.prog.keyLits (d + 1 + 1) 128 [.int .i64 (if s then 1 else 0), .string b] = some l := by
  have m0 : IntKind.i64.min ≤ 0 := by decide
  have m1 : IntKind.i64.min ≤ 1 := by decide
  cases s <;> simp [Program.keyLits, Tryz.underlying128, cellsKey, cells9, cellsSort, hb, Lit.wf, m0, m1]
theorem pk_key (s : Bool) (b : ByteArray) (hb : b.size ≤ maxLen) : ∃ l, keyOf Tryz.prog 128 (pk s b) = some l := by
  unfold keyOf
  rw [Tryz.underlying128]
  obtain ⟨d, e⟩ : ∃ d, Tryz.prog.types.size = d + 1 := ⟨Tryz.prog.types.size - 1, by have := of_decide_eq_true tsz; omega⟩
  simp only [key_type, formed_pk, Bool.and_true, if_true, e]
  obtain ⟨l, hl⟩ := lits_pk d s b hb
  rw [show (pk s b).cells.toList = [.int .i64 (if s then 1 else 0), .string b] from rfl, hl]
  exact ⟨_, rfl⟩

def plK (K : SBk) (i : Nat) : Value := if i < K.svcs.length then pk false (K.svcs.getD i Sv.none).nm else pk true (K.bts.getD (i - K.svcs.length) Bt.none).nm
def plV (K : SBk) (i : Nat) : Nat := if i < K.svcs.length then i else i - K.svcs.length
def plEs (K : SBk) (k : Nat) : Array MapEntry := ((List.range k).map fun i => (⟨plK K i, .int .i64 (plV K i : Nat), i⟩ : MapEntry)).toArray
theorem plEs_at (K : SBk) (k i : Nat) (h : i < k) : (plEs K k)[i]? = some ⟨plK K i, .int .i64 (plV K i : Nat), i⟩ := by simp [plEs, h]
theorem plEs_push (K : SBk) (k : Nat) : (plEs K k).push ⟨plK K k, .int .i64 (plV K k : Nat), k⟩ = plEs K (k + 1) := by
  unfold plEs
  rw [List.range_succ, List.map_append]
  simp
def plAll (K : SBk) : Nat := K.svcs.length + K.bts.length
/-- Names of fit sizes. -/
def Nmd (K : SBk) : Prop := (∀ i, i < K.svcs.length → (K.svcs.getD i Sv.none).nm.size ≤ maxLen) ∧ ∀ i, i < K.bts.length → (K.bts.getD i Bt.none).nm.size ≤ maxLen
/-- No two of a name. -/
def Apart (K : SBk) : Prop := (∀ i j, i < K.svcs.length → j < K.svcs.length → (K.svcs.getD i Sv.none).nm = (K.svcs.getD j Sv.none).nm → i = j) ∧ ∀ i j, i < K.bts.length → j < K.bts.length → (K.bts.getD i Bt.none).nm = (K.bts.getD j Bt.none).nm → i = j
theorem SBkV.nmd {w : World} {a0 a1 a2 : Option Addr} {K : SBk} (h : SBkV w a0 a1 a2 K) : Nmd K :=
  ⟨fun i hi => by obtain ⟨_, _, _, _, hf⟩ := h.s.at_ i hi; exact hf.sized, fun i hi => by obtain ⟨_, _, _, _, hf⟩ := h.b.at_ i hi; exact hf.sized⟩
theorem plK_key {K : SBk} (h : Nmd K) (i : Nat) (hi : i < plAll K) : ∃ l, keyOf Tryz.prog 128 (plK K i) = some l := by
  unfold plK
  split
  · rename_i q; exact pk_key _ _ (h.1 i q)
  · rename_i q; exact pk_key _ _ (h.2 _ (by unfold plAll at hi; omega))
theorem plK_apart {K : SBk} (h : Apart K) {i j : Nat} (hi : i < plAll K) (hj : j < plAll K) (e : plK K i = plK K j) : i = j := by
  unfold plAll at hi hj
  unfold plK at e
  by_cases q : i < K.svcs.length <;> by_cases r : j < K.svcs.length
  · rw [if_pos q, if_pos r] at e; exact h.1 i j q r (pk_inj e).2
  · rw [if_pos q, if_neg r] at e; cases (pk_inj e).1
  · rw [if_neg q, if_pos r] at e; cases (pk_inj e).1
  · rw [if_neg q, if_neg r] at e
    have := h.2 _ _ (by omega) (by omega) (pk_inj e).2
    omega

theorem pl_find (K : SBk) (k : Nat) (W : World) (s : Bool) (nm : ByteArray) (hx : nm.size ≤ maxLen) (hk : k ≤ plAll K) (hs : Nmd K) :
    ((Instr.findKey 128 (pk s nm) (plEs K k).toList).run Tryz.prog W = .ok none W ∧ ∀ i, i < k → plK K i ≠ pk s nm) ∨
    ∃ i, i < k ∧ (Instr.findKey 128 (pk s nm) (plEs K k).toList).run Tryz.prog W = .ok (some (i, .int .i64 (plV K i : Nat))) W ∧ plK K i = pk s nm := by
  obtain ⟨l, hl⟩ := pk_key s nm hx
  have hes : ∀ e ∈ (plEs K k).toList, ∃ l, keyOf Tryz.prog 128 e.key = some l := by
    intro e he
    unfold plEs at he
    simp only [List.mem_map, List.mem_range] at he
    obtain ⟨i, hi, rfl⟩ := he
    exact plK_key hs i (by omega)
  rcases key_law.find W hl _ hes with ⟨h1, h2⟩ | ⟨j, e, h1, h2, h3⟩
  · refine Or.inl ⟨h1, fun i hi he => ?_⟩
    have := plEs_at K k i hi
    exact h2 _ (List.mem_of_getElem? (i := i) (by simpa using this)) he
  · have hj : j < k := by
      have := (List.getElem?_eq_some_iff.1 h2).1
      simpa [plEs] using this
    have e2 := plEs_at K k j hj
    have e3 : (plEs K k).toList[j]? = some ⟨plK K j, .int .i64 (plV K j : Nat), j⟩ := by simpa using e2
    rw [h2] at e3
    injection e3 with e3
    subst e3
    exact Or.inr ⟨j, hj, h1, h3⟩

theorem pk_check (W : World) (em : Bool) (s : Bool) (nm : ByteArray) (hx : nm.size ≤ maxLen) : (Instr.checkKey em 10000 128 (pk s nm)).run Tryz.prog W = .ok () W := by
  obtain ⟨l, hl⟩ := pk_key s nm hx
  exact key_law.check W em hl

/-- A world with another block at a place. -/
def putM (W : World) (mb : Nat) (o : Obj) : World := { W with heap := W.heap.setIfInBounds mb o }
theorem putM_size (W : World) (mb : Nat) (o : Obj) : (putM W mb o).heap.size = W.heap.size := by simp [putM]
theorem putM_at {W : World} {mb : Nat} (o : Obj) (h : mb < W.heap.size) : (putM W mb o).heap[mb]? = some o := by simp [putM, h]
theorem putM_other {W : World} {mb b : Nat} (o : Obj) (h : b ≠ mb) : (putM W mb o).heap[b]? = W.heap[b]? := by
  simp only [putM]
  rw [Array.getElem?_setIfInBounds_ne (fun e => h e.symm)]
theorem putM_cell {W : World} {mb b j : Nat} (o : Obj) (h : b ≠ mb) : (putM W mb o).cell? ⟨b, j, none⟩ = W.cell? ⟨b, j, none⟩ := by
  unfold World.cell?
  rw [putM_other o h]
theorem Below.putM {n : Nat} {a W : World} {mb : Nat} (h : Below n a W) (hn : n ≤ mb) (o : Obj) : Below n a (putM W mb o) :=
  ⟨h.os, h.tape, h.output, by rw [putM_size]; exact h.size, fun k hk => by rw [putM_other o (by omega)]; exact h.block k hk⟩

theorem pl_upd (es : Array MapEntry) (k mb : Nat) (W : World) (s : Bool) (nm : ByteArray) (v : Value) (hx : nm.size ≤ maxLen) (hb : W.heap[mb]? = some (.map es k)) (hn : (Instr.findKey 128 (pk s nm) es.toList).run Tryz.prog W = .ok none W) :
    (Instr.mapUpdate 123 (.map (some mb)) (pk s nm) v).run Tryz.prog W = .ok () (putM W mb (.map (es.push ⟨pk s nm, v, k⟩) (k + 1))) := by
  have hc := pk_check W false s nm hx
  simp [Instr.mapUpdate, run_underlying Tryz.underlying123, MapKept.run_getObj_map hb, hc, hn, Result.andThen, MapKept.run_setObj_map _ hb, putM]

theorem pl_hit (es : Array MapEntry) (k mb i : Nat) (W : World) (s : Bool) (nm : ByteArray) (v : Value) (hx : nm.size ≤ maxLen) (hb : W.heap[mb]? = some (.map es k)) (hn : (Instr.findKey 128 (pk s nm) es.toList).run Tryz.prog W = .ok (some (i, v)) W) :
    (Instr.lookup 123 (.map (some mb)) (pk s nm) true).run Tryz.prog W = .ok (.tuple #[v, .bool true]) W := by
  have hc := pk_check W es.isEmpty s nm hx
  simp [Instr.lookup, run_underlying Tryz.underlying123, MapKept.run_getObj_map hb, hc, hn, Result.andThen]
theorem pl_miss (es : Array MapEntry) (k mb : Nat) (W : World) (s : Bool) (nm : ByteArray) (hx : nm.size ≤ maxLen) (hb : W.heap[mb]? = some (.map es k)) (hn : (Instr.findKey 128 (pk s nm) es.toList).run Tryz.prog W = .ok none W) :
    (Instr.lookup 123 (.map (some mb)) (pk s nm) true).run Tryz.prog W = .ok (.tuple #[.int .i64 0, .bool false]) W := by
  have hc := pk_check W es.isEmpty s nm hx
  simp [Instr.lookup, run_underlying Tryz.underlying123, MapKept.run_getObj_map hb, hc, hn, Result.andThen]

theorem ba_of_list {a b : ByteArray} (h : a.toList = b.toList) : a = b := by
  have h1 : a.data.toList = b.data.toList := by simpa [ByteArray.toList_eq] using h
  cases a; cases b; simp_all
theorem same_iff (a b : ByteArray) : same a b = true ↔ a = b := by
  unfold same
  constructor
  · intro h; exact ba_of_list (by simpa using h)
  · rintro rfl; simp

/-- The map of places at mb. -/
def PlAt (K : SBk) (W : World) (mb : Nat) : Prop := W.heap[mb]? = some (.map (plEs K (plAll K)) (plAll K))
theorem PlAt.lt {K : SBk} {W : World} {mb : Nat} (h : PlAt K W mb) : mb < W.heap.size := by
  by_cases q : mb < W.heap.size
  · exact q
  · unfold PlAt at h; rw [Array.getElem?_eq_none (by omega)] at h; cases h
theorem PlAt.later {K : SBk} {W W' : World} {mb : Nat} (h : PlAt K W mb) (hb : Below W.heap.size W W') : PlAt K W' mb := (hb.block mb h.lt).trans h

theorem look_sv {K : SBk} {W : World} {mb : Nat} (h : PlAt K W mb) (hs : Nmd K) (ha : Apart K) (nm : ByteArray) (hx : nm.size ≤ maxLen) :
    (svIx K.svcs nm = -1 ∧ (Instr.lookup 123 (.map (some mb)) (.agg #[.int .i64 0, .string nm]) true).run Tryz.prog W = .ok (.tuple #[.int .i64 0, .bool false]) W) ∨
    ∃ i : Nat, i < K.svcs.length ∧ svIx K.svcs nm = i ∧ (K.svcs.getD i Sv.none).nm = nm ∧ (Instr.lookup 123 (.map (some mb)) (.agg #[.int .i64 0, .string nm]) true).run Tryz.prog W = .ok (.tuple #[.int .i64 (i : Nat), .bool true]) W := by
  rcases pl_find K (plAll K) W false nm hx (Nat.le_refl _) hs with ⟨h1, h2⟩ | ⟨i, hi, h1, h2⟩
  · refine Or.inl ⟨?_, pl_miss _ _ mb W false nm hx h h1⟩
    refine firstTo_none fun j hj => ?_
    have := h2 j (by unfold plAll; omega)
    unfold plK at this
    rw [if_pos hj] at this
    rw [Bool.eq_false_iff]
    intro q
    exact this (by rw [(same_iff _ _).1 q])
  · refine Or.inr ?_
    have hl : i < K.svcs.length := by
      by_cases q : i < K.svcs.length
      · exact q
      · unfold plK at h2; rw [if_neg q] at h2; cases (pk_inj h2).1
    have hv : plV K i = i := by unfold plV; rw [if_pos hl]
    have hn : (K.svcs.getD i Sv.none).nm = nm := by unfold plK at h2; rw [if_pos hl] at h2; exact (pk_inj h2).2
    rw [hv] at h1
    refine ⟨i, hl, firstTo_hit hl ((same_iff _ _).2 hn) fun j hj => ?_, hn, pl_hit _ _ mb i W false nm _ hx h h1⟩
    rw [Bool.eq_false_iff]
    intro q
    have := ha.1 j i (by omega) hl (((same_iff _ _).1 q).trans hn.symm)
    omega

theorem look_bt {K : SBk} {W : World} {mb : Nat} (h : PlAt K W mb) (hs : Nmd K) (nm : ByteArray) (hx : nm.size ≤ maxLen) :
    (btIx K.bts nm = -1 ∧ (Instr.lookup 123 (.map (some mb)) (.agg #[.int .i64 1, .string nm]) true).run Tryz.prog W = .ok (.tuple #[.int .i64 0, .bool false]) W) ∨
    ∃ i : Nat, 0 ≤ btIx K.bts nm ∧ (Instr.lookup 123 (.map (some mb)) (.agg #[.int .i64 1, .string nm]) true).run Tryz.prog W = .ok (.tuple #[.int .i64 (i : Nat), .bool true]) W := by
  rcases pl_find K (plAll K) W true nm hx (Nat.le_refl _) hs with ⟨h1, h2⟩ | ⟨i, hi, h1, h2⟩
  · refine Or.inl ⟨?_, pl_miss _ _ mb W true nm hx h h1⟩
    refine firstTo_none fun j hj => ?_
    have := h2 (K.svcs.length + j) (by unfold plAll; omega)
    unfold plK at this
    rw [if_neg (by omega), Nat.add_sub_cancel_left] at this
    rw [Bool.eq_false_iff]
    intro q
    exact this (by rw [(same_iff _ _).1 q])
  · refine Or.inr ⟨_, ?_, pl_hit _ _ mb i W true nm _ hx h h1⟩
    have hl : ¬ i < K.svcs.length := by
      intro q
      unfold plK at h2; rw [if_pos q] at h2; cases (pk_inj h2).1
    have hn : (K.bts.getD (i - K.svcs.length) Bt.none).nm = nm := by unfold plK at h2; rw [if_neg hl] at h2; exact (pk_inj h2).2
    rcases firstTo_cases (fun i => same (K.bts.getD i Bt.none).nm nm) K.bts.length with ⟨_, q⟩ | ⟨k, hk, e, _⟩
    · have := q (i - K.svcs.length) (by unfold plAll at hi; omega)
      rw [(same_iff _ _).2 hn] at this; cases this
    · show (0 : Int) ≤ firstTo _ _
      rw [e]; omega

set_option maxRecDepth 8000 in
set_option maxHeartbeats 40000000 in
theorem placesI (K : SBk) (a0 a1 a2 : Option Addr) (c0 c1 c2 : Nat) (w : World) (h : SBkV w a0 a1 a2 K) (hap : Apart K) :
    Calls Tryz.prog 77 #[.agg #[.int .i64 K.now, .slice a0 K.svcs.length c0, .slice a1 K.cps.length c1, .slice a2 K.bts.length c2]] w fun e w' => ∃ mb, e = .returned (.map (some mb)) ∧ PlAt K w' mb ∧ Below w.heap.size w w' := by
  have HH := hid h
  have HA := hid hap
  have hl := h.s.len
  have hl2 := h.b.len
  unfold maxLen at hl hl2
  clear h hap
  obtain ⟨wa, hwa⟩ : ∃ wa, wa = (w.alloc (.cells #[.int .i64 K.now, .slice a0 K.svcs.length c0, .slice a1 K.cps.length c1, .slice a2 K.bts.length c2] 37)).alloc (.map #[] 0) := ⟨_, rfl⟩
  have HB : Hid (Below w.heap.size w wa) := by show Below _ _ _; rw [hwa]; exact blw_alloc (blw_alloc (Below.refl _ _) _) _
  have HX : Hid (Box4 wa w.heap.size (.int .i64 K.now) (.slice a0 K.svcs.length c0) (.slice a1 K.cps.length c1) (.slice a2 K.bts.length c2)) := by show Box4 _ _ _ _ _ _; rw [hwa]; exact (Box4.new' w _ _ _ _ _ _ rfl).past _
  have HM : Hid (wa.heap[w.heap.size + 1]? = some (.map (plEs K 0) 0)) := by
    show _ = _
    rw [hwa]
    show ((w.heap.push _).push _)[w.heap.size + 1]? = _
    rw [Array.getElem?_push, if_pos (by simp)]; rfl
  have hmk : ∀ W : World, (Instr.makeMap 123 none).run Tryz.prog W = .ok (.map (some W.heap.size)) (W.alloc (.map #[] 0)) := fun W => by kernel_rfl
  go_enter Tryz.func77, Tryz.ntmps77
  go_upto_region 2 with fail
  rw [← hwa]
  clear hwa hmk
  obtain ⟨yz, y0, y1, y2, y3⟩ := HX.out
  go_wp2
  clear yz y0 y1 y2 y3
  go_loopw [12] (fun i wr => ∃ q : Nat, q ≤ K.svcs.length ∧ i = .int .i64 q ∧ (Below w.heap.size w wr ∧ Box4 wr w.heap.size (.int .i64 K.now) (.slice a0 K.svcs.length c0) (.slice a1 K.cps.length c1) (.slice a2 K.bts.length c2) ∧ wr.heap[w.heap.size + 1]? = some (.map (plEs K q) q))) (fun i _ => K.svcs.length - (intOf i).toNat)
  case atStart => exact ⟨0, Nat.zero_le _, rfl, HB.out, HX.out, HM.out⟩
  case round =>
    obtain ⟨q, hq, rfl, hW, hX2, hM2⟩ := hrel
    have HB2 := hid hW
    have HX2 := hid hX2
    have HM2 := hid hM2
    clear hW hX2 hM2
    by_cases hlt : q < K.svcs.length
    · obtain ⟨b, off, ha, hbl, hf⟩ := (HH.out.later HB2.out).s.at_ q hlt
      subst ha
      obtain ⟨x, hx⟩ : ∃ x, x = K.svcs.getD q Sv.none := ⟨_, rfl⟩
      rw [← hx] at hf
      have HSZ := hid hf.sized
      obtain ⟨e0, e1, e2, e3, e4, e5, e6, e7, e8, e9, e10, e11, e12, _⟩ := hf
      have hm0 : (0 : Int) ≤ (q : Int) := by omega
      have hm3 : (q : Int) < (K.svcs.length : Int) := by omega
      obtain ⟨w4, hw4⟩ : ∃ w4, w4 = wr.alloc (.cells #[.string x.nm, .int .i64 x.ver, .bool x.gone, .int .i64 x.image, .int .i64 x.want, .int .i64 x.down, .int .i64 x.over, .int .i64 x.next, .int .i64 x.per, .int .i64 x.least, .int .i64 x.most, .int .i64 x.load, .int .i64 x.cool] 41) := ⟨_, rfl⟩
      have hbw : Below wr.heap.size wr w4 := by rw [hw4]; exact blw_alloc (Below.refl _ _) _
      have HW4 := hid (blw_trans HB2.out hbw)
      have HX4 := hid (HX2.out.later hbw)
      have HZ : Hid (w.heap.size + 1 < wr.heap.size) := by
        by_cases q : w.heap.size + 1 < wr.heap.size
        · exact q
        · have := HM2.out; rw [Array.getElem?_eq_none (by omega)] at this; cases this
      have HM4 := hid ((hbw.block _ HZ.out).trans HM2.out)
      have z0 : w4.cell? ⟨wr.heap.size, 0, none⟩ = some (.string x.nm) := by rw [hw4]; exact World.cell?_alloc_at _ _ _ _ rfl
      have zz : wr.heap.size < w4.heap.size := by rw [hw4]; simp
      have HZ4 : Hid (w.heap.size + 1 < w4.heap.size) := Nat.lt_of_lt_of_le HZ.out hbw.size
      have hup : (Instr.mapUpdate 123 (.map (some (w.heap.size + 1))) (.agg #[.int .i64 0, .string x.nm]) (.int .i64 (q : Int))).run Tryz.prog w4 = .ok () (putM w4 (w.heap.size + 1) (.map (plEs K (q + 1)) (q + 1))) := by
        have e := pl_upd (plEs K q) q (w.heap.size + 1) w4 false x.nm (.int .i64 (q : Int)) HSZ.out HM4.out (by
          rcases pl_find K q w4 false x.nm HSZ.out (by unfold plAll; omega) HH.out.nmd with h | ⟨i, hi, _, he⟩
          · exact h.1
          · have e2 : plK K q = pk false x.nm := by unfold plK; rw [if_pos hlt, hx]
            exact absurd (plK_apart HA.out (by unfold plAll; omega) (by unfold plAll; omega) (he.trans e2.symm)) (by omega))
        rw [← plEs_push]
        have e2 : plK K q = pk false x.nm := by unfold plK; rw [if_pos hlt, hx]
        have e3 : plV K q = q := by unfold plV; rw [if_pos hlt]
        rw [e2, e3]
        exact e
      clear hx hbw
      go_upto_region 5 with fail
      rw [← hw4]
      clear hw4 e0 e1 e2 e3 e4 e5 e6 e7 e8 e9 e10 e11 e12 hbl
      go_wp2
      go_roundw
      case rel =>
        refine ⟨q + 1, by omega, by go_num, Below.putM HW4.out (by omega) _, ?_, putM_at _ HZ4.out⟩
        obtain ⟨yz, y0, y1, y2, y3⟩ := HX4.out
        exact ⟨by rw [putM_size]; exact yz, (putM_cell _ (by omega)).trans y0, (putM_cell _ (by omega)).trans y1, (putM_cell _ (by omega)).trans y2, (putM_cell _ (by omega)).trans y3⟩
      case measure => simp [intOf]; omega
    · obtain rfl : q = K.svcs.length := by omega
      obtain ⟨yz, y0, y1, y2, y3⟩ := HX2.out
      go_wp2
      clear yz y0 y1 y2 y3
      obtain ⟨wm, hwm⟩ : ∃ wm, wm = wr := ⟨_, rfl⟩
      rw [← hwm] at HB2 HX2 HM2 ⊢
      clear hwm
      go_loopw [26] (fun i wr => ∃ q : Nat, q ≤ K.bts.length ∧ i = .int .i64 q ∧ (Below w.heap.size w wr ∧ Box4 wr w.heap.size (.int .i64 K.now) (.slice a0 K.svcs.length c0) (.slice a1 K.cps.length c1) (.slice a2 K.bts.length c2) ∧ wr.heap[w.heap.size + 1]? = some (.map (plEs K (K.svcs.length + q)) (K.svcs.length + q)))) (fun i _ => K.bts.length - (intOf i).toNat)
      case atStart => exact ⟨0, Nat.zero_le _, rfl, HB2.out, HX2.out, HM2.out⟩
      case round =>
        obtain ⟨q, hq, rfl, hW, hX2, hM2⟩ := hrel
        clear HB2 HX2 HM2
        have HB2 := hid hW
        have HX2 := hid hX2
        have HM2 := hid hM2
        clear hW hX2 hM2
        by_cases hlt : q < K.bts.length
        · obtain ⟨b, off, ha, hbl, hf⟩ := (HH.out.later HB2.out).b.at_ q hlt
          subst ha
          obtain ⟨x, hx⟩ : ∃ x, x = K.bts.getD q Bt.none := ⟨_, rfl⟩
          rw [← hx] at hf
          have HSZ := hid hf.sized
          obtain ⟨e0, e1, _⟩ := hf
          have hm0 : (0 : Int) ≤ (q : Int) := by omega
          have hm3 : (q : Int) < (K.bts.length : Int) := by omega
          obtain ⟨w4, hw4⟩ : ∃ w4, w4 = wr.alloc (.cells #[.string x.nm, .bool x.drain] 79) := ⟨_, rfl⟩
          have hbw : Below wr.heap.size wr w4 := by rw [hw4]; exact blw_alloc (Below.refl _ _) _
          have HW4 := hid (blw_trans HB2.out hbw)
          have HX4 := hid (HX2.out.later hbw)
          have HZ : Hid (w.heap.size + 1 < wr.heap.size) := by
            by_cases q : w.heap.size + 1 < wr.heap.size
            · exact q
            · have := HM2.out; rw [Array.getElem?_eq_none (by omega)] at this; cases this
          have HM4 := hid ((hbw.block _ HZ.out).trans HM2.out)
          have z0 : w4.cell? ⟨wr.heap.size, 0, none⟩ = some (.string x.nm) := by rw [hw4]; exact World.cell?_alloc_at _ _ _ _ rfl
          have zz : wr.heap.size < w4.heap.size := by rw [hw4]; simp
          have HZ4 : Hid (w.heap.size + 1 < w4.heap.size) := Nat.lt_of_lt_of_le HZ.out hbw.size
          have hup : (Instr.mapUpdate 123 (.map (some (w.heap.size + 1))) (.agg #[.int .i64 1, .string x.nm]) (.int .i64 (q : Int))).run Tryz.prog w4 = .ok () (putM w4 (w.heap.size + 1) (.map (plEs K (K.svcs.length + (q + 1))) (K.svcs.length + (q + 1)))) := by
            have e2 : plK K (K.svcs.length + q) = pk true x.nm := by unfold plK; rw [if_neg (by omega), Nat.add_sub_cancel_left, hx]
            have e3 : plV K (K.svcs.length + q) = q := by unfold plV; rw [if_neg (by omega), Nat.add_sub_cancel_left]
            have e := pl_upd (plEs K (K.svcs.length + q)) (K.svcs.length + q) (w.heap.size + 1) w4 true x.nm (.int .i64 (q : Int)) HSZ.out HM4.out (by
              rcases pl_find K (K.svcs.length + q) w4 true x.nm HSZ.out (by unfold plAll; omega) HH.out.nmd with h | ⟨i, hi, _, he⟩
              · exact h.1
              · exact absurd (plK_apart HA.out (by unfold plAll; omega) (by unfold plAll; omega) (he.trans e2.symm)) (by omega))
            rw [← Nat.add_assoc, ← plEs_push, e2, e3]
            exact e
          clear hx hbw
          go_upto_region 10 with fail
          rw [← hw4]
          clear hw4 e0 e1 hbl
          go_wp2
          go_roundw
          case rel =>
            refine ⟨q + 1, by omega, by go_num, Below.putM HW4.out (by omega) _, ?_, putM_at _ HZ4.out⟩
            obtain ⟨yz, y0, y1, y2, y3⟩ := HX4.out
            exact ⟨by rw [putM_size]; exact yz, (putM_cell _ (by omega)).trans y0, (putM_cell _ (by omega)).trans y1, (putM_cell _ (by omega)).trans y2, (putM_cell _ (by omega)).trans y3⟩
          case measure => simp [intOf]; omega
        · obtain rfl : q = K.bts.length := by omega
          go_wp2
          go_ret
          exact ⟨_, rfl, HM2.out, HB2.out⟩

end Go.Proofs.YtclagbakddkjcaaGreat
