/-
  Stewards: what is seen of a copy, by the program.
-/
import Derived.Deep.MidRow
import Derived.Laws.StructEq
import Derived.Test.YtamhfnlogldpaaaStMI
namespace Go.Proofs.Ytamhfnlogldpaaa
open Go.RowKit Go.Deep

/-- A box's cells. -/
structure LBox (W : World) (p : Nat) (cs : List Value) : Prop where
  lt : p < W.heap.size
  at_ : W.rangeAt p 0 cs
theorem LBox.later {W W' : World} {p : Nat} {cs : List Value} (h : LBox W p cs) (hb : Below W.heap.size W W') : LBox W' p cs :=
  ⟨Nat.lt_of_lt_of_le h.lt hb.size, fun j v hv => (hb.cell (p := ⟨p, 0 + j, none⟩) h.lt).trans (h.at_ j v hv)⟩
theorem LBox.new (W : World) (cs : Array Value) (t : TypeId) (p : Nat) (hp : p = W.heap.size) : LBox (W.alloc (.cells cs t)) p cs.toList := by
  subst hp
  refine ⟨by simp, fun j v hv => ?_⟩
  rw [Nat.zero_add]
  refine (World.cell?_alloc_at _ _ _ _ rfl).trans ?_
  simpa using hv
theorem LBox.past {W : World} {p : Nat} {cs : List Value} (h : LBox W p cs) (x : Obj) : LBox (W.alloc x) p cs := h.later (blw_alloc (Below.refl _ _) x)
theorem LBox.get {W : World} {p : Nat} {cs : List Value} (h : LBox W p cs) (j : Nat) (v : Value) (hv : cs[j]? = some v) : W.cell? ⟨p, j, none⟩ = some v := by
  have := h.at_ j v hv
  rwa [Nat.zero_add] at this

set_option maxHeartbeats 4000000 in
theorem isOldI (K : SBk) (a0 a1 a2 : Option Addr) (c0 c1 c2 : Nat) (s : Sv) (n : Cn) (al : Option Addr) (cl : Nat) (L : List Cp) (lv : Int) (c : Cp) (w : World) :
    Calls Try.prog 73 #[.agg #[.int .i64 K.now, .slice a0 K.svcs.length c0, .slice a1 K.cps.length c1, .slice a2 K.bts.length c2, .string s.nm, .int .i64 s.ver, .bool s.gone, .int .i64 s.image, .int .i64 s.want, .int .i64 s.down, .int .i64 s.over, .int .i64 s.next, .int .i64 s.per, .int .i64 s.least, .int .i64 s.most, .int .i64 s.load, .int .i64 s.cool, .int .i64 n.live, .int .i64 n.ready, .int .i64 n.old, .int .i64 n.failed, .int .i64 n.ending, .slice al L.length cl, .int .i64 lv], .agg #[.string c.svc, .int .i64 c.num, .int .i64 c.ver, .int .i64 c.image, .int .i64 c.state, .bool c.ending, .string c.berth]] w fun e w' => e = .returned (.bool (c.image != s.image)) ∧ Below w.heap.size w w' := by
  obtain ⟨wa, hwa⟩ : ∃ wa, wa = (w.alloc (.cells #[.int .i64 K.now, .slice a0 K.svcs.length c0, .slice a1 K.cps.length c1, .slice a2 K.bts.length c2, .string s.nm, .int .i64 s.ver, .bool s.gone, .int .i64 s.image, .int .i64 s.want, .int .i64 s.down, .int .i64 s.over, .int .i64 s.next, .int .i64 s.per, .int .i64 s.least, .int .i64 s.most, .int .i64 s.load, .int .i64 s.cool, .int .i64 n.live, .int .i64 n.ready, .int .i64 n.old, .int .i64 n.failed, .int .i64 n.ending, .slice al L.length cl, .int .i64 lv] 88)).alloc (.cells #[.string c.svc, .int .i64 c.num, .int .i64 c.ver, .int .i64 c.image, .int .i64 c.state, .bool c.ending, .string c.berth] 63) := ⟨_, rfl⟩
  have HB : Hid (Below w.heap.size w wa) := by show Below _ _ _; rw [hwa]; exact blw_alloc (blw_alloc (Below.refl _ _) _) _
  have HX : Hid (LBox wa w.heap.size [.int .i64 K.now, .slice a0 K.svcs.length c0, .slice a1 K.cps.length c1, .slice a2 K.bts.length c2, .string s.nm, .int .i64 s.ver, .bool s.gone, .int .i64 s.image, .int .i64 s.want, .int .i64 s.down, .int .i64 s.over, .int .i64 s.next, .int .i64 s.per, .int .i64 s.least, .int .i64 s.most, .int .i64 s.load, .int .i64 s.cool, .int .i64 n.live, .int .i64 n.ready, .int .i64 n.old, .int .i64 n.failed, .int .i64 n.ending, .slice al L.length cl, .int .i64 lv]) := by show LBox _ _ _; rw [hwa]; exact (LBox.new w _ _ _ rfl).past _
  have HC : Hid (LBox wa (w.heap.size + 1) [.string c.svc, .int .i64 c.num, .int .i64 c.ver, .int .i64 c.image, .int .i64 c.state, .bool c.ending, .string c.berth]) := by show LBox _ _ _; rw [hwa]; exact LBox.new _ _ _ _ (by simp)
  go_enter Try.func73, Try.ntmps73
  go_upto_region 1 with fail
  rw [← hwa]
  clear hwa
  have yz := HX.out.lt
  have y7 := HX.out.get 7 _ rfl
  have cz := HC.out.lt
  have c3 := HC.out.get 3 _ rfl
  go_wp2
  go_ret
  exact ⟨rfl, HB.out⟩

theorem same_comm (a b : ByteArray) : same a b = same b a := by
  unfold same
  cases h : (a.toList == b.toList) <;> cases k : (b.toList == a.toList) <;> simp_all
theorem Try.btUd : Try.prog.underlying 78 = some (.struct (Try.prog.fieldsOf 78)) := by kernel_rfl
theorem Try.btHeld : Try.prog.stoodInHeld 78 = false := by kernel_rfl
theorem Try.btGuard : Try.prog.eqGuardType Try.prog.depth 78 = false := by kernel_rfl
theorem eqlBt (a b : ByteArray) (x y : Bool) (W : World) : (binOp .eql 78 (.agg #[.string a, .bool x]) (.agg #[.string b, .bool y])).run Try.prog W = .ok (.bool ((a.toList == b.toList) && (x == y))) W := by
  rw [run_eql_struct, run_equalIn_agg W 9999 78 _ _ Try.btUd Try.btHeld]
  simp [Program.fieldsOf, Try.underlying78, go_sem]
  by_cases h : a.toList = b.toList
  · by_cases k : x = y <;> simp [h, k]
  · simp [h]
theorem guardBt (p q : Operand) (xs ys : Array Value) (W : World) : (eqGuard .eql 78 p q (.agg xs) (.agg ys)).run Try.prog W = .ok () W := run_eqGuard_agg W _ _ _ _ _ _ Try.btGuard

/-- The place of a berth of this name that is to be drained. -/
def dnIx (l : List Bt) (nm : ByteArray) : Int := firstTo (fun i => same (l.getD i Bt.none).nm nm && (l.getD i Bt.none).drain) l.length
set_option maxHeartbeats 8000000 in
theorem indexBt (l : List Bt) (a : Option Addr) (c : Nat) (nm : ByteArray) (w : World) (h : BtsV w a l) :
    Calls Try.prog 93 #[.slice a l.length c, .agg #[.string nm, .bool true]] w fun e w' => e = .returned (.int .i64 (dnIx l nm)) ∧ Below w.heap.size w w' := by
  have hl := h.len
  unfold maxLen at hl
  have HH := hid h
  clear h
  obtain ⟨R, hR⟩ : ∃ R, R = dnIx l nm := ⟨_, rfl⟩
  have HR : Hid (R = firstTo (fun i => same (l.getD i Bt.none).nm nm && (l.getD i Bt.none).drain) l.length) := hR
  rw [← hR]
  clear hR
  obtain ⟨wa, hwa⟩ : ∃ wa, wa = w.alloc (.cells #[.string nm, .bool true] 78) := ⟨_, rfl⟩
  have HB : Hid (Below w.heap.size w wa) := by show Below _ _ _; rw [hwa]; exact blw_alloc (Below.refl _ _) _
  have HX : Hid (LBox wa w.heap.size [.string nm, .bool true]) := by show LBox _ _ _; rw [hwa]; exact LBox.new w _ _ _ rfl
  go_enter Try.func93, Try.ntmps93
  go_upto_region 1 with fail
  rw [← hwa]
  clear hwa
  go_wp2
  go_loopw [8] (fun i wr => ∃ k : Nat, k ≤ l.length ∧ i = .int .i64 k ∧ Below wa.heap.size wa wr ∧ ∀ j, j < k → (same (l.getD j Bt.none).nm nm && (l.getD j Bt.none).drain) = false) (fun i _ => l.length - (intOf i).toNat)
  case atStart => exact ⟨0, Nat.zero_le _, rfl, Below.refl _ _, fun j hj => absurd hj (Nat.not_lt_zero j)⟩
  case round =>
    obtain ⟨k, hk, rfl, hW, hall⟩ := hrel
    have HA := hid hall
    have HW := hid hW
    have HX2 := hid (HX.out.later hW)
    have yz := HX2.out.lt
    have y0 := HX2.out.get 0 _ rfl
    have y1 := HX2.out.get 1 _ rfl
    clear hall hW
    by_cases hlt : k < l.length
    · obtain ⟨b, off, ha, hbl, hf⟩ := (HH.out.later (blw_trans HB.out HW.out)).at_ k hlt
      subst ha
      obtain ⟨m, hm⟩ : ∃ m, m = l.getD k Bt.none := ⟨_, rfl⟩
      rw [← hm] at hf
      obtain ⟨z0, z1, _⟩ := hf
      have HM := hid hm
      clear hm
      have hm0 : (0 : Int) ≤ (k : Int) := by omega
      have hm3 : (k : Int) < (l.length : Int) := by omega
      cases hq : ((nm.toList == m.nm.toList) && (true == m.drain))
      · have HQ : Hid ((same m.nm nm && m.drain) = false) := by
          show _ = _
          rw [same_comm, same]
          cases e1 : (nm.toList == m.nm.toList)
          · rfl
          · rw [e1] at hq; cases e2 : m.drain
            · rfl
            · rw [e2] at hq; cases hq
        have HN : Hid (∀ j, j < k + 1 → (same (l.getD j Bt.none).nm nm && (l.getD j Bt.none).drain) = false) := by
          intro j hj
          by_cases e : j = k
          · subst e; rw [← HM.out]; exact HQ.out
          · exact HA.out j (by omega)
        have hbe : ∀ W, (binOp .eql 78 (.agg #[.string nm, .bool true]) (.agg #[.string m.nm, .bool m.drain])).run Try.prog W = .ok (.bool false) W := fun W => by rw [eqlBt, hq]
        have hge := guardBt
        clear HA HQ hq HM
        go_upto_region 4 with fail
        go_quiet (fail)
        go_wp2
        go_roundw
        case rel => exact ⟨k + 1, by omega, by go_num, by exact blw_drewN HW.out _, HN.out⟩
        case measure => simp [intOf]; omega
      · have HE : Hid (R = k) := by
          show R = k
          rw [HR.out]
          refine firstTo_hit hlt ?_ HA.out
          rw [← HM.out, same_comm, same]
          cases e1 : (nm.toList == m.nm.toList)
          · rw [e1] at hq; cases hq
          · rw [e1] at hq; cases e2 : m.drain
            · rw [e2] at hq; cases hq
            · rfl
        have hbe : ∀ W, (binOp .eql 78 (.agg #[.string nm, .bool true]) (.agg #[.string m.nm, .bool m.drain])).run Try.prog W = .ok (.bool true) W := fun W => by rw [eqlBt, hq]
        have hge := guardBt
        clear HA hq HM HR
        go_upto_region 4 with fail
        go_quiet (fail)
        go_wp2
        go_ret
        exact ⟨by rw [HE.out]; rfl, blw_drewN (blw_trans HB.out HW.out) _⟩
    · have HE : Hid (R = -1) := by
        show R = -1
        rw [HR.out]
        exact firstTo_none fun i hi => HA.out i (by omega)
      clear HA HR
      go_wp2
      go_ret
      exact ⟨by rw [HE.out]; rfl, blw_trans HB.out HW.out⟩

set_option maxHeartbeats 4000000 in
theorem containsBt (l : List Bt) (a : Option Addr) (c : Nat) (nm : ByteArray) (w : World) (h : BtsV w a l) :
    Calls Try.prog 88 #[.slice a l.length c, .agg #[.string nm, .bool true]] w fun e w' => e = .returned (.bool (decide (0 ≤ dnIx l nm))) ∧ Below w.heap.size w w' := by
  have HH := hid h
  clear h
  obtain ⟨wa, hwa⟩ : ∃ wa, wa = w.alloc (.cells #[.string nm, .bool true] 78) := ⟨_, rfl⟩
  have HB : Hid (Below w.heap.size w wa) := by show Below _ _ _; rw [hwa]; exact blw_alloc (Below.refl _ _) _
  have HX : Hid (LBox wa w.heap.size [.string nm, .bool true]) := by show LBox _ _ _; rw [hwa]; exact LBox.new w _ _ _ rfl
  go_enter Try.func88, Try.ntmps88
  go_upto_region 1 with fail
  rw [← hwa]
  clear hwa
  have yz := HX.out.lt
  have y0 := HX.out.get 0 _ rfl
  have y1 := HX.out.get 1 _ rfl
  go_wp2_with fail
  refine (indexBt l a c nm wa (HH.out.later HB.out)).mono ?_
  rintro e w1 ⟨rfl, hb⟩
  have HB1 := hid (blw_trans HB.out hb)
  clear yz y0 y1 hb
  go_wp2
  go_ret
  exact ⟨rfl, HB1.out⟩

/-- Whether a copy stands on a berth that is to be drained, by the program. -/
def leaves (K : SBk) (c : Cp) : Bool := decide (0 ≤ dnIx K.bts c.berth)
set_option maxHeartbeats 4000000 in
theorem mustLeaveI (K : SBk) (a0 a1 a2 : Option Addr) (c0 c1 c2 : Nat) (s : Sv) (n : Cn) (al : Option Addr) (cl : Nat) (L : List Cp) (lv : Int) (c : Cp) (w : World) (h : SBkV w a0 a1 a2 K) :
    Calls Try.prog 74 #[.agg #[.int .i64 K.now, .slice a0 K.svcs.length c0, .slice a1 K.cps.length c1, .slice a2 K.bts.length c2, .string s.nm, .int .i64 s.ver, .bool s.gone, .int .i64 s.image, .int .i64 s.want, .int .i64 s.down, .int .i64 s.over, .int .i64 s.next, .int .i64 s.per, .int .i64 s.least, .int .i64 s.most, .int .i64 s.load, .int .i64 s.cool, .int .i64 n.live, .int .i64 n.ready, .int .i64 n.old, .int .i64 n.failed, .int .i64 n.ending, .slice al L.length cl, .int .i64 lv], .agg #[.string c.svc, .int .i64 c.num, .int .i64 c.ver, .int .i64 c.image, .int .i64 c.state, .bool c.ending, .string c.berth]] w fun e w' => e = .returned (.bool (leaves K c)) ∧ Below w.heap.size w w' := by
  have HH := hid h
  clear h
  obtain ⟨wa, hwa⟩ : ∃ wa, wa = (w.alloc (.cells #[.int .i64 K.now, .slice a0 K.svcs.length c0, .slice a1 K.cps.length c1, .slice a2 K.bts.length c2, .string s.nm, .int .i64 s.ver, .bool s.gone, .int .i64 s.image, .int .i64 s.want, .int .i64 s.down, .int .i64 s.over, .int .i64 s.next, .int .i64 s.per, .int .i64 s.least, .int .i64 s.most, .int .i64 s.load, .int .i64 s.cool, .int .i64 n.live, .int .i64 n.ready, .int .i64 n.old, .int .i64 n.failed, .int .i64 n.ending, .slice al L.length cl, .int .i64 lv] 88)).alloc (.cells #[.string c.svc, .int .i64 c.num, .int .i64 c.ver, .int .i64 c.image, .int .i64 c.state, .bool c.ending, .string c.berth] 63) := ⟨_, rfl⟩
  have HB : Hid (Below w.heap.size w wa) := by show Below _ _ _; rw [hwa]; exact blw_alloc (blw_alloc (Below.refl _ _) _) _
  have HX : Hid (LBox wa w.heap.size [.int .i64 K.now, .slice a0 K.svcs.length c0, .slice a1 K.cps.length c1, .slice a2 K.bts.length c2, .string s.nm, .int .i64 s.ver, .bool s.gone, .int .i64 s.image, .int .i64 s.want, .int .i64 s.down, .int .i64 s.over, .int .i64 s.next, .int .i64 s.per, .int .i64 s.least, .int .i64 s.most, .int .i64 s.load, .int .i64 s.cool, .int .i64 n.live, .int .i64 n.ready, .int .i64 n.old, .int .i64 n.failed, .int .i64 n.ending, .slice al L.length cl, .int .i64 lv]) := by show LBox _ _ _; rw [hwa]; exact (LBox.new w _ _ _ rfl).past _
  have HC : Hid (LBox wa (w.heap.size + 1) [.string c.svc, .int .i64 c.num, .int .i64 c.ver, .int .i64 c.image, .int .i64 c.state, .bool c.ending, .string c.berth]) := by show LBox _ _ _; rw [hwa]; exact LBox.new _ _ _ _ (by simp)
  go_enter Try.func74, Try.ntmps74
  go_upto_region 1 with fail
  rw [← hwa]
  clear hwa
  have yz := HX.out.lt
  have y3 := HX.out.get 3 _ rfl
  have cz := HC.out.lt
  have c6 := HC.out.get 6 _ rfl
  go_wp2_with fail
  refine (containsBt K.bts a2 c2 c.berth wa (HH.out.later HB.out).b).mono ?_
  rintro e w1 ⟨rfl, hb⟩
  have HB1 := hid (blw_trans HB.out hb)
  clear yz y3 cz c6 hb
  go_wp2
  go_ret
  exact ⟨rfl, HB1.out⟩

end Go.Proofs.Ytamhfnlogldpaaa
