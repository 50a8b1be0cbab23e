/-
  Stewards: StewAsk, by the program.
-/
import Derived.Test.YtamhfnlogldpaaaGreatPsG
import Derived.Test.YtamhfnlogldpaaaGreatPsH
import Derived.Test.YtamhfnlogldpaaaGreatPsI
import Derived.Test.YtamhfnlogldpaaaGreatPsJ
import Derived.Test.YtamhfnlogldpaaaGreatAcR
import Derived.Test.YtamhfnlogldpaaaGreatSAk
import Derived.Test.YtamhfnlogldpaaaGreatStMI
namespace Go.Proofs.YtamhfnlogldpaaaGreat
open Go.RowKit Go.Deep

/-- What a steward of a kind asks, by the program: the act, and whether it is asked for. -/
def pAc (kind : Int) (K : SBk) (s : Sv) (n : Cn) (L : List Cp) (lv : Int) : Ac × Bool :=
  if kind = 1 then (⟨s.nm, s.ver, (couP K s n L lv).1, 0, 0, false, (couP K s n L lv).2.1, false⟩, (couP K s n L lv).2.2)
  else if kind = 2 then (⟨s.nm, s.ver, (wavP K s n L).1, 0, 0, false, (wavP K s n L).2.1, false⟩, (wavP K s n L).2.2)
  else if kind = 3 then (⟨s.nm, s.ver, 0, 0, 0, false, menP L, false⟩, decide (0 < (menP L).length))
  else if kind = 4 then (⟨s.nm, s.ver, 0, (scaP s).1, (scaP s).2.1, (scaP s).2.2, [], false⟩, (scaP s).2.2)
  else if kind = 5 then (⟨s.nm, s.ver, 0, 0, 0, false, (sweP s n L).1, (sweP s n L).2.1⟩, (sweP s n L).2.2)
  else (⟨s.nm, s.ver, (draP K s n L lv).1, 0, 0, false, (draP K s n L lv).2.1, false⟩, (draP K s n L lv).2.2)

theorem pAc_svc (kind : Int) (K : SBk) (s : Sv) (n : Cn) (L : List Cp) (lv : Int) : (pAc kind K s n L lv).1.svc = s.nm ∧ (pAc kind K s n L lv).1.seen = s.ver := by
  unfold pAc
  (repeat' split) <;> exact ⟨rfl, rfl⟩
theorem owns_tsc {W : World} {p o lo n : Nat} {v x : Value} {xs : List Value} (hO : OwnBlk W p 47 8) (h0 : W.ownsRow lo 114 2 v n xs) : (W.setCell ⟨p, o, none⟩ x).ownsRow lo 114 2 v n xs := by
  refine ⟨h0.1, ?_⟩
  rcases h0.2 with q | ⟨g, cap, cur, q1, q2, q3, q4⟩
  · exact Or.inl q
  · refine Or.inr ⟨g, cap, cur, q1, q2, ?_, q4⟩
    rw [Below.heap_setCell W ⟨p, o, none⟩ x g ?_]
    · exact q3
    · intro e
      have e' : g = p := e
      obtain ⟨cs, g1, _⟩ := hO
      rw [e'] at q3
      rw [g1] at q3
      injection q3 with q3
      injection q3 with _ q3 _
      exact absurd q3 (by decide)

theorem st1 (K : SBk) (a0 a1 a2 : Option Addr) (c0 c1 c2 : Nat) (s : Sv) (n : Cn) (al : Option Addr) (cl : Nat) (L : List Cp) (lv : Int) (w : World) (h : SBkV w a0 a1 a2 K) (hasc : ascCp K.cps = true) (hlen : K.cps.length ≤ 200) (hv : svOk s K.now = true) (hn : n.le 200) (hL : CpsV w al L) (hll : L.length ≤ 200) :
    Calls Tryz.prog 24 #[.agg #[.int .i64 K.now, .slice a0 K.svcs.length c0, .slice a1 K.cps.length c1, .slice a2 K.bts.length c2, .string s.nm, .int .i64 s.ver, .bool s.gone, .int .i64 s.image, .int .i64 s.want, .int .i64 s.down, .int .i64 s.over, .int .i64 s.next, .int .i64 s.per, .int .i64 s.least, .int .i64 s.most, .int .i64 s.load, .int .i64 s.cool, .int .i64 n.live, .int .i64 n.ready, .int .i64 n.old, .int .i64 n.failed, .int .i64 n.ending, .slice al L.length cl, .int .i64 lv]] w fun e w' => (∃ va vc, e = .returned (.tuple #[.agg #[.string ByteArray.empty, .int .i64 0, .int .i64 (pAc 1 K s n L lv).1.create, .int .i64 (pAc 1 K s n L lv).1.want, .int .i64 (pAc 1 K s n L lv).1.cool, .bool (pAc 1 K s n L lv).1.scale, .slice va (pAc 1 K s n L lv).1.ends.length vc, .bool (pAc 1 K s n L lv).1.drop], .bool (pAc 1 K s n L lv).2]) ∧ w'.ownsRow w.heap.size 114 2 (.slice va ((pAc 1 K s n L lv).1.ends).length vc) ((pAc 1 K s n L lv).1.ends).length (((pAc 1 K s n L lv).1.ends).flatMap EnC)) ∧ Below w.heap.size w w' := by
  have b := sv_bounds hv
  exact counterI K a0 a1 a2 c0 c1 c2 s n al cl L lv w h hasc hlen b.1 b.2.1 hn.1 hL hll

theorem st2 (K : SBk) (a0 a1 a2 : Option Addr) (c0 c1 c2 : Nat) (s : Sv) (n : Cn) (al : Option Addr) (cl : Nat) (L : List Cp) (lv : Int) (w : World) (h : SBkV w a0 a1 a2 K) (hasc : ascCp K.cps = true) (hlen : K.cps.length ≤ 200) (hv : svOk s K.now = true) (hn : n.le 200) (hL : CpsV w al L) (hll : L.length ≤ 200) :
    Calls Tryz.prog 25 #[.agg #[.int .i64 K.now, .slice a0 K.svcs.length c0, .slice a1 K.cps.length c1, .slice a2 K.bts.length c2, .string s.nm, .int .i64 s.ver, .bool s.gone, .int .i64 s.image, .int .i64 s.want, .int .i64 s.down, .int .i64 s.over, .int .i64 s.next, .int .i64 s.per, .int .i64 s.least, .int .i64 s.most, .int .i64 s.load, .int .i64 s.cool, .int .i64 n.live, .int .i64 n.ready, .int .i64 n.old, .int .i64 n.failed, .int .i64 n.ending, .slice al L.length cl, .int .i64 lv]] w fun e w' => (∃ va vc, e = .returned (.tuple #[.agg #[.string ByteArray.empty, .int .i64 0, .int .i64 (pAc 2 K s n L lv).1.create, .int .i64 (pAc 2 K s n L lv).1.want, .int .i64 (pAc 2 K s n L lv).1.cool, .bool (pAc 2 K s n L lv).1.scale, .slice va (pAc 2 K s n L lv).1.ends.length vc, .bool (pAc 2 K s n L lv).1.drop], .bool (pAc 2 K s n L lv).2]) ∧ w'.ownsRow w.heap.size 114 2 (.slice va ((pAc 2 K s n L lv).1.ends).length vc) ((pAc 2 K s n L lv).1.ends).length (((pAc 2 K s n L lv).1.ends).flatMap EnC)) ∧ Below w.heap.size w w' := by
  have b := sv_bounds hv
  exact waverI K a0 a1 a2 c0 c1 c2 s n al cl L lv w h hasc hlen b.1 b.2.1 hn.1 hL hll

theorem st3 (K : SBk) (a0 a1 a2 : Option Addr) (c0 c1 c2 : Nat) (s : Sv) (n : Cn) (al : Option Addr) (cl : Nat) (L : List Cp) (lv : Int) (w : World) (hL : CpsV w al L) (hll : L.length ≤ 200) :
    Calls Tryz.prog 26 #[.agg #[.int .i64 K.now, .slice a0 K.svcs.length c0, .slice a1 K.cps.length c1, .slice a2 K.bts.length c2, .string s.nm, .int .i64 s.ver, .bool s.gone, .int .i64 s.image, .int .i64 s.want, .int .i64 s.down, .int .i64 s.over, .int .i64 s.next, .int .i64 s.per, .int .i64 s.least, .int .i64 s.most, .int .i64 s.load, .int .i64 s.cool, .int .i64 n.live, .int .i64 n.ready, .int .i64 n.old, .int .i64 n.failed, .int .i64 n.ending, .slice al L.length cl, .int .i64 lv]] w fun e w' => (∃ va vc, e = .returned (.tuple #[.agg #[.string ByteArray.empty, .int .i64 0, .int .i64 (pAc 3 K s n L lv).1.create, .int .i64 (pAc 3 K s n L lv).1.want, .int .i64 (pAc 3 K s n L lv).1.cool, .bool (pAc 3 K s n L lv).1.scale, .slice va (pAc 3 K s n L lv).1.ends.length vc, .bool (pAc 3 K s n L lv).1.drop], .bool (pAc 3 K s n L lv).2]) ∧ w'.ownsRow w.heap.size 114 2 (.slice va ((pAc 3 K s n L lv).1.ends).length vc) ((pAc 3 K s n L lv).1.ends).length (((pAc 3 K s n L lv).1.ends).flatMap EnC)) ∧ Below w.heap.size w w' := by
  exact menderI K a0 a1 a2 c0 c1 c2 s n al cl L lv w hL hll

theorem st4 (K : SBk) (a0 a1 a2 : Option Addr) (c0 c1 c2 : Nat) (s : Sv) (n : Cn) (al : Option Addr) (cl : Nat) (L : List Cp) (lv : Int) (w : World) (hv : svOk s K.now = true) :
    Calls Tryz.prog 27 #[.agg #[.int .i64 K.now, .slice a0 K.svcs.length c0, .slice a1 K.cps.length c1, .slice a2 K.bts.length c2, .string s.nm, .int .i64 s.ver, .bool s.gone, .int .i64 s.image, .int .i64 s.want, .int .i64 s.down, .int .i64 s.over, .int .i64 s.next, .int .i64 s.per, .int .i64 s.least, .int .i64 s.most, .int .i64 s.load, .int .i64 s.cool, .int .i64 n.live, .int .i64 n.ready, .int .i64 n.old, .int .i64 n.failed, .int .i64 n.ending, .slice al L.length cl, .int .i64 lv]] w fun e w' => (∃ va vc, e = .returned (.tuple #[.agg #[.string ByteArray.empty, .int .i64 0, .int .i64 (pAc 4 K s n L lv).1.create, .int .i64 (pAc 4 K s n L lv).1.want, .int .i64 (pAc 4 K s n L lv).1.cool, .bool (pAc 4 K s n L lv).1.scale, .slice va (pAc 4 K s n L lv).1.ends.length vc, .bool (pAc 4 K s n L lv).1.drop], .bool (pAc 4 K s n L lv).2]) ∧ w'.ownsRow w.heap.size 114 2 (.slice va ((pAc 4 K s n L lv).1.ends).length vc) ((pAc 4 K s n L lv).1.ends).length (((pAc 4 K s n L lv).1.ends).flatMap EnC)) ∧ Below w.heap.size w w' := by
  have b := sv_bounds hv
  obtain ⟨⟨b1, b2, _, _⟩, _, b7, b8, b9, b10, b11, b12⟩ := b
  refine (scalerI K a0 a1 a2 c0 c1 c2 s n al cl L lv w b7 b8 b9 b10 b1 b2 b11 b12).mono ?_
  rintro e w' ⟨rfl, hb⟩
  exact ⟨⟨none, 0, rfl, owns_nil _ _ _ _⟩, hb⟩

theorem st5 (K : SBk) (a0 a1 a2 : Option Addr) (c0 c1 c2 : Nat) (s : Sv) (n : Cn) (al : Option Addr) (cl : Nat) (L : List Cp) (lv : Int) (w : World) (hn : n.le 200) (hL : CpsV w al L) (hll : L.length ≤ 200) :
    Calls Tryz.prog 28 #[.agg #[.int .i64 K.now, .slice a0 K.svcs.length c0, .slice a1 K.cps.length c1, .slice a2 K.bts.length c2, .string s.nm, .int .i64 s.ver, .bool s.gone, .int .i64 s.image, .int .i64 s.want, .int .i64 s.down, .int .i64 s.over, .int .i64 s.next, .int .i64 s.per, .int .i64 s.least, .int .i64 s.most, .int .i64 s.load, .int .i64 s.cool, .int .i64 n.live, .int .i64 n.ready, .int .i64 n.old, .int .i64 n.failed, .int .i64 n.ending, .slice al L.length cl, .int .i64 lv]] w fun e w' => (∃ va vc, e = .returned (.tuple #[.agg #[.string ByteArray.empty, .int .i64 0, .int .i64 (pAc 5 K s n L lv).1.create, .int .i64 (pAc 5 K s n L lv).1.want, .int .i64 (pAc 5 K s n L lv).1.cool, .bool (pAc 5 K s n L lv).1.scale, .slice va (pAc 5 K s n L lv).1.ends.length vc, .bool (pAc 5 K s n L lv).1.drop], .bool (pAc 5 K s n L lv).2]) ∧ w'.ownsRow w.heap.size 114 2 (.slice va ((pAc 5 K s n L lv).1.ends).length vc) ((pAc 5 K s n L lv).1.ends).length (((pAc 5 K s n L lv).1.ends).flatMap EnC)) ∧ Below w.heap.size w w' := by
  exact sweeperI K a0 a1 a2 c0 c1 c2 s n al cl L lv w hL hll hn.1 hn.2.2.2.2

theorem st6 (K : SBk) (a0 a1 a2 : Option Addr) (c0 c1 c2 : Nat) (s : Sv) (n : Cn) (al : Option Addr) (cl : Nat) (L : List Cp) (lv : Int) (w : World) (h : SBkV w a0 a1 a2 K) (hasc : ascCp K.cps = true) (hlen : K.cps.length ≤ 200) (hv : svOk s K.now = true) (hn : n.le 200) (hL : CpsV w al L) (hll : L.length ≤ 200) :
    Calls Tryz.prog 29 #[.agg #[.int .i64 K.now, .slice a0 K.svcs.length c0, .slice a1 K.cps.length c1, .slice a2 K.bts.length c2, .string s.nm, .int .i64 s.ver, .bool s.gone, .int .i64 s.image, .int .i64 s.want, .int .i64 s.down, .int .i64 s.over, .int .i64 s.next, .int .i64 s.per, .int .i64 s.least, .int .i64 s.most, .int .i64 s.load, .int .i64 s.cool, .int .i64 n.live, .int .i64 n.ready, .int .i64 n.old, .int .i64 n.failed, .int .i64 n.ending, .slice al L.length cl, .int .i64 lv]] w fun e w' => (∃ va vc, e = .returned (.tuple #[.agg #[.string ByteArray.empty, .int .i64 0, .int .i64 (pAc 6 K s n L lv).1.create, .int .i64 (pAc 6 K s n L lv).1.want, .int .i64 (pAc 6 K s n L lv).1.cool, .bool (pAc 6 K s n L lv).1.scale, .slice va (pAc 6 K s n L lv).1.ends.length vc, .bool (pAc 6 K s n L lv).1.drop], .bool (pAc 6 K s n L lv).2]) ∧ w'.ownsRow w.heap.size 114 2 (.slice va ((pAc 6 K s n L lv).1.ends).length vc) ((pAc 6 K s n L lv).1.ends).length (((pAc 6 K s n L lv).1.ends).flatMap EnC)) ∧ Below w.heap.size w w' := by
  have b := sv_bounds hv
  exact drainerI K a0 a1 a2 c0 c1 c2 s n al cl L lv w h hasc hlen b.1 b.2.1 hn.1 hL hll

/-- What a steward asks for, by the program. -/
def pAsk (kind : Int) (K : SBk) (s : Sv) : Ac × Bool := pAc kind K s (cnL K.cps s.image (rowCp K.cps s.nm)) (liveC K s.nm) (((liveC K s.nm).filter fun c => leaves K c).length : Int)
def pTo (kind : Int) (K : SBk) (k : Nat) : List Ac := (((K.svcs.take k).map (pAsk kind K)).filter (·.2)).map (·.1)
def pOf (kind : Int) (K : SBk) : List Ac := if (inB kind 1 6 && sbOk K) = true then pTo kind K K.svcs.length else []
theorem pTo_succ (kind : Int) (K : SBk) {k : Nat} (hk : k < K.svcs.length) : pTo kind K (k + 1) = pTo kind K k ++ (if (pAsk kind K (K.svcs.getD k Sv.none)).2 then [(pAsk kind K (K.svcs.getD k Sv.none)).1] else []) := by
  have e : K.svcs[k]? = some (K.svcs.getD k Sv.none) := by simp [hk]
  unfold pTo
  rw [List.take_add_one, e, List.map_append, List.filter_append, List.map_append]
  congr 1
  simp only [Option.toList_some, List.map_cons, List.map_nil, List.filter_cons, List.filter_nil]
  split <;> rfl
theorem pTo_len (kind : Int) (K : SBk) (k : Nat) : (pTo kind K k).length ≤ k := by
  unfold pTo
  rw [List.length_map]
  exact Nat.le_trans (List.length_filter_le _ _) (by rw [List.length_map, List.length_take]; omega)
theorem liveC_len (K : SBk) (nm : ByteArray) : (liveC K nm).length ≤ K.cps.length := by
  unfold liveC
  refine Nat.le_trans (List.length_filter_le _ _) ?_
  rw [List.length_map]
  exact row_len _
set_option maxRecDepth 8000 in
set_option maxHeartbeats 16000000 in
theorem stewAskI (K : SBk) (a0 a1 a2 : Option Addr) (c0 c1 c2 : Nat) (kind : Int) (w : World) (h : SBkV w a0 a1 a2 K) :
    Calls Tryz.prog 7 #[.int .i64 kind, .agg #[.int .i64 K.now, .slice a0 K.svcs.length c0, .slice a1 K.cps.length c1, .slice a2 K.bts.length c2]] w fun e w' => (∃ v es, e = .returned v ∧ AcsR w' w.heap.size v (pOf kind K) es) ∧ Below w.heap.size w w' := by
  have HH := hid h
  have hl := h.s.len
  unfold maxLen at hl
  clear h
  obtain ⟨i0, hi, hz0, hz1, hz2⟩ := info_parts Tryz.infAs
  obtain ⟨wa, hwa⟩ : ∃ wa, wa = w.alloc (.cells #[.int .i64 K.now, .slice a0 K.svcs.length c0, .slice a1 K.cps.length c1, .slice a2 K.bts.length c2] 34) := ⟨_, rfl⟩
  have HB : Hid (Below w.heap.size w wa) := by show Below _ _ _; rw [hwa]; exact blw_alloc (Below.refl _ _) _
  have HX : Hid (LBox wa w.heap.size [.int .i64 K.now, .slice a0 K.svcs.length c0, .slice a1 K.cps.length c1, .slice a2 K.bts.length c2]) := by show LBox _ _ _; rw [hwa]; exact LBox.new w _ _ _ rfl
  go_enter Tryz.func7, Tryz.ntmps7
  go_upto_region 1 with fail
  rw [← hwa]
  clear hwa
  have yz := HX.out.lt
  have y0 := HX.out.get 0 _ rfl
  have y1 := HX.out.get 1 _ rfl
  have y2 := HX.out.get 2 _ rfl
  have y3 := HX.out.get 3 _ rfl
  go_wp2_with fail
  refine (withinI kind 1 6 wa).mono ?_
  rintro e wb ⟨rfl, rfl⟩
  cases hw : inB kind 1 6
  · go_wp2
    go_ret
    exact ⟨⟨_, [], rfl, by rw [pOf, hw]; exact AcsR.nil _ _⟩, HB.out⟩
  go_wp2_with fail
  refine (stewValidV K a0 a1 a2 c0 c1 c2 wa (HH.out.later HB.out)).mono ?_
  rintro e wc ⟨rfl, hbc⟩
  have HBw := hid hbc
  have HXc := hid (HX.out.later hbc)
  clear yz y0 y1 y2 y3 hbc
  cases hv : sbOk K
  · go_wp2
    go_ret
    exact ⟨⟨_, [], rfl, by rw [pOf, hw, hv]; exact AcsR.nil _ _⟩, blw_trans HB.out HBw.out⟩
  have HV : Hid (inB kind 1 6 = true ∧ sbOk K = true) := ⟨hw, hv⟩
  obtain ⟨hl8, hok⟩ := svs_ok hv
  obtain ⟨_, hasc, hlen, _⟩ := chk_all hv
  have HOK := hid hok
  have HAS := hid hasc
  have HLN := hid hlen
  have hkd : 1 ≤ kind ∧ kind ≤ 6 := by simpa [inB] using hw
  obtain ⟨hk1, hk6⟩ := hkd
  clear hv hok hasc hlen hw
  have yz := HXc.out.lt
  have y1 := HXc.out.get 1 _ rfl
  go_wp2
  clear yz y1
  go_loopw [5, 23] (fun v i wr => ∃ (k : Nat) (es : List Value), k ≤ K.svcs.length ∧ i = .int .i64 k ∧ AcsR wr wa.heap.size v (pTo kind K k) es ∧ Below wa.heap.size wa wr) (fun _ i _ => K.svcs.length - (intOf i).toNat)
  case atStart => exact ⟨0, [], Nat.zero_le _, rfl, AcsR.nil _ _, HBw.out⟩
  case round =>
    rename_i v _ _
    obtain ⟨k, es, hk, rfl, hR, hW⟩ := hrel
    have HR := hid hR
    have HW := hid hW
    obtain ⟨a, c, hv⟩ := owns_slice hR.row
    subst hv
    have HXr := hid (HX.out.later hW)
    clear hR hW
    by_cases hlt : k < K.svcs.length
    · obtain ⟨b, off, ha, hbl, hf⟩ := (HH.out.later (blw_trans HB.out HW.out)).s.at_ k hlt
      subst ha
      obtain ⟨s, hs⟩ : ∃ s, s = K.svcs.getD k Sv.none := ⟨_, rfl⟩
      rw [← hs] at hf
      have HS : Hid (pTo kind K (k + 1) = pTo kind K k ++ (if (pAsk kind K s).2 then [(pAsk kind K s).1] else [])) := by show _ = _; rw [pTo_succ kind K hlt, ← hs]
      have hvs := HOK.out k hlt
      rw [← hs] at hvs
      have HVS := hid hvs
      have hrs := svRange hf
      have hln := pTo_len kind K k
      obtain ⟨nn, hnn⟩ : ∃ nn, nn = (pTo kind K k).length := ⟨_, rfl⟩
      rw [← hnn] at hln ⊢
      have HNL := hid hnn
      clear hs hf hvs hnn
      have hm0 : (0 : Int) ≤ (k : Int) := by omega
      have hm3 : (k : Int) < (K.svcs.length : Int) := by omega
      obtain ⟨w1, hw1⟩ : ∃ w1, w1 = wr.alloc (.cells #[.string s.nm, .int .i64 s.ver, .bool s.gone, .int .i64 s.image, .int .i64 s.want, .int .i64 s.down, .int .i64 s.over, .int .i64 s.next, .int .i64 s.per, .int .i64 s.least, .int .i64 s.most, .int .i64 s.load, .int .i64 s.cool] 50) := ⟨_, rfl⟩
      have hb1 : Below wr.heap.size wr w1 := by rw [hw1]; exact blw_alloc (Below.refl _ _) _
      obtain ⟨q1, hq1⟩ : ∃ q1, q1 = wr.heap.size := ⟨_, rfl⟩
      have HS1 : Hid (LBox w1 q1 [.string s.nm, .int .i64 s.ver, .bool s.gone, .int .i64 s.image, .int .i64 s.want, .int .i64 s.down, .int .i64 s.over, .int .i64 s.next, .int .i64 s.per, .int .i64 s.least, .int .i64 s.most, .int .i64 s.load, .int .i64 s.cool]) := by show LBox _ _ _; rw [hw1]; exact LBox.new _ _ _ _ hq1
      go_upto_region 7 with (refine wpList_load_mid rfl 50 _ rfl b (off + k * 13) rfl [.string s.nm, .int .i64 s.ver, .bool s.gone, .int .i64 s.image, .int .i64 s.want, .int .i64 s.down, .int .i64 s.over, .int .i64 s.next, .int .i64 s.per, .int .i64 s.least, .int .i64 s.most, .int .i64 s.load, .int .i64 s.cool] _ hrs Tryz.underlying50 rfl (by kernel_rfl) ?_)
      rw [← hw1, ← hq1]
      have HB1 := hid hb1
      have HX1 := hid (HXr.out.later hb1)
      clear hw1 hq1 hb1 hrs HXr hbl
      have yz := HX1.out.lt
      have y0 := HX1.out.get 0 _ rfl
      have y1 := HX1.out.get 1 _ rfl
      have y2 := HX1.out.get 2 _ rfl
      have y3 := HX1.out.get 3 _ rfl
      have tz := HS1.out.lt
      have t0 := HS1.out.get 0 _ rfl
      have t1 := HS1.out.get 1 _ rfl
      have t2 := HS1.out.get 2 _ rfl
      have t3 := HS1.out.get 3 _ rfl
      have t4 := HS1.out.get 4 _ rfl
      have t5 := HS1.out.get 5 _ rfl
      have t6 := HS1.out.get 6 _ rfl
      have t7 := HS1.out.get 7 _ rfl
      have t8 := HS1.out.get 8 _ rfl
      have t9 := HS1.out.get 9 _ rfl
      have t10 := HS1.out.get 10 _ rfl
      have t11 := HS1.out.get 11 _ rfl
      have t12 := HS1.out.get 12 _ rfl
      go_wp2_with fail
      refine (sightOfI K (some ⟨b, off, none⟩) a1 a2 c0 c1 c2 s w1 (HH.out.later (blw_trans HB.out (blw_trans HW.out HB1.out))) HAS.out HLN.out).mono ?_
      rintro e w2 ⟨⟨n, al, cl, L, lv, hn, hL, hlv, rfl, hcv⟩, hb2⟩
      obtain ⟨gs, hgs⟩ : ∃ gs : List Value, gs = [.int .i64 K.now, .slice (some ⟨b, off, none⟩) K.svcs.length c0, .slice a1 K.cps.length c1, .slice a2 K.bts.length c2, .string s.nm, .int .i64 s.ver, .bool s.gone, .int .i64 s.image, .int .i64 s.want, .int .i64 s.down, .int .i64 s.over, .int .i64 s.next, .int .i64 s.per, .int .i64 s.least, .int .i64 s.most, .int .i64 s.load, .int .i64 s.cool, .int .i64 n.live, .int .i64 n.ready, .int .i64 n.old, .int .i64 n.failed, .int .i64 n.ending, .slice al L.length cl, .int .i64 lv] := ⟨_, rfl⟩
      have hG : .agg #[.int .i64 K.now, .slice (some ⟨b, off, none⟩) K.svcs.length c0, .slice a1 K.cps.length c1, .slice a2 K.bts.length c2, .string s.nm, .int .i64 s.ver, .bool s.gone, .int .i64 s.image, .int .i64 s.want, .int .i64 s.down, .int .i64 s.over, .int .i64 s.next, .int .i64 s.per, .int .i64 s.least, .int .i64 s.most, .int .i64 s.load, .int .i64 s.cool, .int .i64 n.live, .int .i64 n.ready, .int .i64 n.old, .int .i64 n.failed, .int .i64 n.ending, .slice al L.length cl, .int .i64 lv] = Value.agg gs.toArray := by rw [hgs]
      obtain ⟨w3, hw3⟩ : ∃ w3, w3 = (w2.alloc (.cells #[.int .i64 0, .slice none 0 0, .slice none 0 0, .slice none 0 0, .string { data := #[] }, .int .i64 0, .bool false, .int .i64 0, .int .i64 0, .int .i64 0, .int .i64 0, .int .i64 0, .int .i64 0, .int .i64 0, .int .i64 0, .int .i64 0, .int .i64 0, .int .i64 0, .int .i64 0, .int .i64 0, .int .i64 0, .int .i64 0, .slice none 0 0, .int .i64 0] 58)).setCells w2.heap.size 0 gs := ⟨_, rfl⟩
      obtain ⟨q3, hq3⟩ : ∃ q3, q3 = w2.heap.size := ⟨_, rfl⟩
      have hgz : gs.toArray.size = 24 := by rw [hgs]; rfl
      have hgl : (Tryz.prog.info? 58).map (·.size) = some gs.length := by rw [hgs]; exact Tryz.infoSgt
      have hth3 : (w2.alloc (.cells #[.int .i64 0, .slice none 0 0, .slice none 0 0, .slice none 0 0, .string { data := #[] }, .int .i64 0, .bool false, .int .i64 0, .int .i64 0, .int .i64 0, .int .i64 0, .int .i64 0, .int .i64 0, .int .i64 0, .int .i64 0, .int .i64 0, .int .i64 0, .int .i64 0, .int .i64 0, .int .i64 0, .int .i64 0, .int .i64 0, .slice none 0 0, .int .i64 0] 58)).there w2.heap.size 0 gs.toArray.size := by rw [hgz]; exact RY.own_there (OwnBlk.alloc_at2 _ _ _ _ _ rfl rfl)
      have hin3 : (Tryz.prog.info? 58).map (·.size) = some gs.toArray.size := by rw [hgz]; exact Tryz.infoSgt
      have hon3 : (gs.toArray.all fun x => x.oneCell') = true := by rw [hgs]; simp [Value.oneCell']
      have hb3 : Below w2.heap.size w2 w3 := by rw [hw3]; exact setCells_below (blw_alloc (Below.refl _ _) _) (Nat.le_refl _) _ _
      have HG3 : Hid (LBox w3 q3 gs) := by
        refine ⟨?_, ?_⟩
        · have : (w2.alloc (.cells #[.int .i64 0, .slice none 0 0, .slice none 0 0, .slice none 0 0, .string { data := #[] }, .int .i64 0, .bool false, .int .i64 0, .int .i64 0, .int .i64 0, .int .i64 0, .int .i64 0, .int .i64 0, .int .i64 0, .int .i64 0, .int .i64 0, .int .i64 0, .int .i64 0, .int .i64 0, .int .i64 0, .int .i64 0, .int .i64 0, .slice none 0 0, .int .i64 0] 58)).heap.size ≤ w3.heap.size := by rw [hw3]; exact (BelX.scs gs 0 _ (BelX.refl w2.heap.size _)).size
          rw [hq3]; simp at this; omega
        · rw [hw3, hq3]; exact World.rangeAt_setCells_same _ _ _ _ (by simpa using hth3)
      have HN := hid hn
      have HL := hid hL
      have HLV := hid hlv
      have HGS := hid hG
      have HB3 := hid (blw_trans HB1.out (blw_trans hb2 hb3))
      have HS3 := hid (HS1.out.later (blw_trans hb2 hb3))
      have HCV3 := hid (hcv.later hb3)
      have HGE := hid hgs
      rw [hG]
      clear hG hgs hgz hn hL hlv hcv hb2 yz y0 y1 y2 y3 tz t0 t1 t2 t3 t4 t5 t6 t7 t8 t9 t10 t11 t12 HS1 HX1
      go_upto_region 8 with (refine wpList_store_mid rfl 58 _ _ rfl w2.heap.size 0 gs.toArray rfl rfl hth3 hin3 hon3 ?_)
      rw [← hw3, ← hq3]
      clear hw3 hq3 hb3 hth3 hin3 hon3
      have hrg := HG3.out.at_
      obtain ⟨w4, hw4⟩ : ∃ w4, w4 = (w3.alloc (.cells #[.nilFunc, .nilFunc, .nilFunc, .nilFunc, .nilFunc, .nilFunc, .nilFunc] 61)).setCells w3.heap.size 0 [.nilFunc, .func (.func 24) #[.agg gs.toArray] #[], .func (.func 25) #[.agg gs.toArray] #[], .func (.func 26) #[.agg gs.toArray] #[], .func (.func 27) #[.agg gs.toArray] #[], .func (.func 28) #[.agg gs.toArray] #[], .func (.func 29) #[.agg gs.toArray] #[]] := ⟨_, rfl⟩
      have hth : (w3.alloc (.cells #[.nilFunc, .nilFunc, .nilFunc, .nilFunc, .nilFunc, .nilFunc, .nilFunc] 61)).there w3.heap.size 0 7 := RY.own_there (OwnBlk.alloc_at2 _ _ _ _ _ rfl rfl)
      have HF4 : Hid (w4.rangeAt w3.heap.size 0 [.nilFunc, .func (.func 24) #[.agg gs.toArray] #[], .func (.func 25) #[.agg gs.toArray] #[], .func (.func 26) #[.agg gs.toArray] #[], .func (.func 27) #[.agg gs.toArray] #[], .func (.func 28) #[.agg gs.toArray] #[], .func (.func 29) #[.agg gs.toArray] #[]]) := by show World.rangeAt _ _ _ _; rw [hw4]; exact World.rangeAt_setCells_same _ _ _ _ hth
      have HB4 : Hid (Below w3.heap.size w3 w4) := by show Below _ _ _; rw [hw4]; exact setCells_below (blw_alloc (Below.refl _ _) _) (Nat.le_refl _) _ _
      have hz4 : w3.heap.size < w4.heap.size := by rw [hw4]; simp [World.setCells, World.setCell]
      go_upto_region 9 with (first | refine wpList_load_mid rfl 58 _ rfl q3 0 rfl gs _ hrg Tryz.underlying58 rfl hgl ?_ | refine wpList_store_mid rfl 61 _ _ rfl w3.heap.size 0 #[.nilFunc, .func (.func 24) #[.agg gs.toArray] #[], .func (.func 25) #[.agg gs.toArray] #[], .func (.func 26) #[.agg gs.toArray] #[], .func (.func 27) #[.agg gs.toArray] #[], .func (.func 28) #[.agg gs.toArray] #[], .func (.func 29) #[.agg gs.toArray] #[]] rfl rfl hth (by kernel_rfl) (by simp [Value.oneCell']) ?_)
      rw [← hw4]
      obtain ⟨q4, hq4⟩ : ∃ q4, q4 = w3.heap.size := ⟨_, rfl⟩
      rw [← hq4] at HF4 hz4 ⊢
      clear hw4 hth hq4 hrg
      have HF5 : Hid (LBox w4 q4 [.nilFunc, .func (.func 24) #[.agg gs.toArray] #[], .func (.func 25) #[.agg gs.toArray] #[], .func (.func 26) #[.agg gs.toArray] #[], .func (.func 27) #[.agg gs.toArray] #[], .func (.func 28) #[.agg gs.toArray] #[], .func (.func 29) #[.agg gs.toArray] #[]]) := ⟨hz4, HF4.out⟩
      clear HF4
      have HNL2 : Hid (n.le 200) := by
        have h1 := cnL_le K.cps s.image (rowCp K.cps s.nm)
        have h2 : (rowCp K.cps s.nm).length ≤ 200 := Nat.le_trans (row_len _) HLN.out
        rw [← HN.out] at h1
        obtain ⟨p1, p2, p3, p4, p5⟩ := h1
        exact ⟨⟨p1.1, by omega⟩, ⟨p2.1, by omega⟩, ⟨p3.1, by omega⟩, ⟨p4.1, by omega⟩, ⟨p5.1, by omega⟩⟩
      have HLL : Hid (L.length ≤ 200) := by show _ ≤ _; rw [HL.out]; exact Nat.le_trans (liveC_len K s.nm) HLN.out
      have HS4 := hid (HS3.out.later HB4.out)
      have HB14 := hid (blw_trans HB3.out HB4.out)
      have HCV4 := hid (HCV3.out.later HB4.out)
      have HPA : Hid (pAsk kind K s = pAc kind K s n L lv) := by show _ = _; rw [pAsk, ← HN.out, ← HL.out, ← HLV.out]
      have hks : kind = 1 ∨ kind = 2 ∨ kind = 3 ∨ kind = 4 ∨ kind = 5 ∨ kind = 6 := by omega
      clear HB3 HS3 HCV3 HG3 hgl HN HL HLV HGE
      have fz := HF5.out.lt
      rcases hks with rfl | rfl | rfl | rfl | rfl | rfl
      · obtain ⟨X, hX⟩ : ∃ X, X = pAc 1 K s n L lv := ⟨_, rfl⟩
        rw [← hX] at HPA
        have HSV : Hid (X.1.svc = s.nm ∧ X.1.seen = s.ver) := by show _ ∧ _; rw [hX]; exact pAc_svc _ _ _ _ _ _
        have HST : Hid (∀ W, Below w4.heap.size w4 W → Calls Tryz.prog 24 #[.agg gs.toArray] W fun e w' => (∃ va vc, e = .returned (.tuple #[.agg #[.string ByteArray.empty, .int .i64 0, .int .i64 X.1.create, .int .i64 X.1.want, .int .i64 X.1.cool, .bool X.1.scale, .slice va X.1.ends.length vc, .bool X.1.drop], .bool X.2]) ∧ w'.ownsRow W.heap.size 114 2 (.slice va (X.1.ends).length vc) (X.1.ends).length ((X.1.ends).flatMap EnC)) ∧ Below W.heap.size W w') := fun W hW => by rw [hX, ← HGS.out]; exact st1 K (some ⟨b, off, none⟩) a1 a2 c0 c1 c2 s n al cl L lv W (HH.out.later (blw_trans HB.out (blw_trans HW.out (blw_trans HB14.out hW)))) HAS.out HLN.out HVS.out HNL2.out (HCV4.out.later hW) HLL.out
        have f1 := HF5.out.get 1 _ rfl
        clear hX HGS
        go_wp2_with fail
        refine (HST.out w4 (Below.refl _ _)).mono ?_
        rintro e w5 ⟨⟨va, vc, rfl, ho⟩, hb5⟩
        have HO5 := hid ho
        obtain ⟨w6, hw6⟩ : ∃ w6, w6 = w5.alloc (.cells #[.string ByteArray.empty, .int .i64 0, .int .i64 X.1.create, .int .i64 X.1.want, .int .i64 X.1.cool, .bool X.1.scale, .slice va X.1.ends.length vc, .bool X.1.drop] 47) := ⟨_, rfl⟩
        obtain ⟨q6, hq6⟩ : ∃ q6, q6 = w5.heap.size := ⟨_, rfl⟩
        have hb6 : Below w5.heap.size w5 w6 := by rw [hw6]; exact blw_alloc (Below.refl _ _) _
        have HA6 : Hid (OwnBlk w6 q6 47 8) := by show OwnBlk _ _ _ _; rw [hw6]; exact OwnBlk.alloc_at2 _ _ _ _ _ rfl hq6
        have HP6 : Hid (LBox w6 q6 [.string ByteArray.empty, .int .i64 0, .int .i64 X.1.create, .int .i64 X.1.want, .int .i64 X.1.cool, .bool X.1.scale, .slice va X.1.ends.length vc, .bool X.1.drop]) := by show LBox _ _ _; rw [hw6]; exact LBox.new _ _ _ _ hq6
        have HB6 := hid (blw_trans HB14.out (blw_trans hb5 hb6))
        have HS6 := hid (HS4.out.later (blw_trans hb5 hb6))
        have HO6 : Hid (w6.ownsRow w4.heap.size 114 2 (.slice va X.1.ends.length vc) X.1.ends.length (X.1.ends.flatMap EnC)) := owns_later HO5.out hb6
        have hq14 : wr.heap.size ≤ q6 := by rw [hq6]; exact Nat.le_trans HB14.out.size hb5.size
        have h4r : wr.heap.size ≤ w4.heap.size := HB14.out.size
        go_upto_region 10 with fail
        rw [← hw6, ← hq6]
        clear hw6 hq6 hb6 hb5 ho f1 fz HO5 HST HF5 HB14 HS4 HCV4 HB4
        cases hX2 : X.2
        · have HQ : Hid (pTo 1 K (k + 1) = pTo 1 K k) := by show _ = _; rw [HS.out, HPA.out, hX2]; simp
          clear HS HPA
          go_wp2
          go_roundw
          case rel => exact ⟨k + 1, es, by omega, by go_num, by rw [HQ.out, HNL.out]; exact HR.out.later HB6.out, blw_trans HW.out HB6.out⟩
          case measure => simp [intOf]; omega
        have HQ : Hid (pTo 1 K (k + 1) = pTo 1 K k ++ [X.1]) := by show _ = _; rw [HS.out, HPA.out, hX2]; simp
        clear HS HPA
        have tz := HS6.out.lt
        have t0 := HS6.out.get 0 _ rfl
        have t1 := HS6.out.get 1 _ rfl
        have pz := HP6.out.lt
        have p0 := HP6.out.get 0 _ rfl
        have p1 := HP6.out.get 1 _ rfl
        have hfz := HA6.out.frozen
        obtain ⟨w7, hw7⟩ : ∃ w7, w7 = ((w6.setCell ⟨q6, 0, none⟩ (.string s.nm)).setCell ⟨q6, 1, none⟩ (.int .i64 s.ver)).drew := ⟨_, rfl⟩
        have HB7 : Hid (Below wr.heap.size wr w7) := by show Below _ _ _; rw [hw7]; exact Below.drew ((HB6.out.setCell (p := ⟨q6, 0, none⟩) hq14 _).setCell (p := ⟨q6, 1, none⟩) hq14 _)
        have HO7 : Hid (w7.ownsRow w4.heap.size 114 2 (.slice va X.1.ends.length vc) X.1.ends.length (X.1.ends.flatMap EnC)) := by show World.ownsRow _ _ _ _ _ _ _; rw [hw7]; exact owns_later (owns_tsc (HA6.out.setCell 0 _) (owns_tsc HA6.out HO6.out)) (Below.drew (Below.refl _ _))
        have HP7 : Hid (LBox w7 q6 [.string s.nm, .int .i64 s.ver, .int .i64 X.1.create, .int .i64 X.1.want, .int .i64 X.1.cool, .bool X.1.scale, .slice va X.1.ends.length vc, .bool X.1.drop]) := by
          show LBox _ _ _
          rw [hw7]
          refine ⟨by have := HP6.out.lt; show q6 < ((w6.setCell ⟨q6, 0, none⟩ (.string s.nm)).setCell ⟨q6, 1, none⟩ (.int .i64 s.ver)).heap.size; rw [sc_size, sc_size]; exact this, fun j v hv => ?_⟩
          rw [Nat.zero_add]
          have e0 : ((w6.setCell ⟨q6, 0, none⟩ (.string s.nm)).setCell ⟨q6, 1, none⟩ (.int .i64 s.ver)).cell? ⟨q6, 0, none⟩ = some (.string s.nm) := (sc_ne _ _ _ _ _ _ (Or.inr (by decide))).trans (sc_eq HA6.out 0 (by decide) _)
          have e1 : ((w6.setCell ⟨q6, 0, none⟩ (.string s.nm)).setCell ⟨q6, 1, none⟩ (.int .i64 s.ver)).cell? ⟨q6, 1, none⟩ = some (.int .i64 s.ver) := sc_eq (HA6.out.setCell 0 _) 1 (by decide) _
          match j, hv with
          | 0, hv => injection hv with hv; subst hv; exact e0
          | 1, hv => injection hv with hv; subst hv; exact e1
          | 2, hv => injection hv with hv; subst hv; exact (sc_ne _ _ _ _ _ _ (Or.inr (by decide))).trans ((sc_ne _ _ _ _ _ _ (Or.inr (by decide))).trans (HP6.out.get 2 _ rfl))
          | 3, hv => injection hv with hv; subst hv; exact (sc_ne _ _ _ _ _ _ (Or.inr (by decide))).trans ((sc_ne _ _ _ _ _ _ (Or.inr (by decide))).trans (HP6.out.get 3 _ rfl))
          | 4, hv => injection hv with hv; subst hv; exact (sc_ne _ _ _ _ _ _ (Or.inr (by decide))).trans ((sc_ne _ _ _ _ _ _ (Or.inr (by decide))).trans (HP6.out.get 4 _ rfl))
          | 5, hv => injection hv with hv; subst hv; exact (sc_ne _ _ _ _ _ _ (Or.inr (by decide))).trans ((sc_ne _ _ _ _ _ _ (Or.inr (by decide))).trans (HP6.out.get 5 _ rfl))
          | 6, hv => injection hv with hv; subst hv; exact (sc_ne _ _ _ _ _ _ (Or.inr (by decide))).trans ((sc_ne _ _ _ _ _ _ (Or.inr (by decide))).trans (HP6.out.get 6 _ rfl))
          | 7, hv => injection hv with hv; subst hv; exact (sc_ne _ _ _ _ _ _ (Or.inr (by decide))).trans ((sc_ne _ _ _ _ _ _ (Or.inr (by decide))).trans (HP6.out.get 7 _ rfl))
          | n + 8, hv => simp at hv
        go_upto_region 11 with fail
        go_region
        rw [← hw7]
        clear hw7 tz t0 t1 pz p0 p1 hfz HA6 HP6 HO6 HS6 HB6
        have pz := HP7.out.lt
        have d0 := HP7.out.get 0 _ rfl
        have d1 := HP7.out.get 1 _ rfl
        have d2 := HP7.out.get 2 _ rfl
        have d3 := HP7.out.get 3 _ rfl
        have d4 := HP7.out.get 4 _ rfl
        have d5 := HP7.out.get 5 _ rfl
        have d6 := HP7.out.get 6 _ rfl
        have d7 := HP7.out.get 7 _ rfl
        have hs7 : wa.heap.size ≤ w7.heap.size := Nat.le_trans HW.out.size HB7.out.size
        go_wp2_with (at_builtin; refine wpList_append_own _ rfl _ _ 28 rfl wa.heap.size 47 i0 _ 8 88 Tryz.undAs hi hz0 hz1 hz2 rfl (by decide) (.slice a nn c) nn (acsC (pTo 1 K k) es) rfl ?g1a ⟨w7.heap.size, 0, none⟩ 1 1 [.string s.nm, .int .i64 s.ver, .int .i64 X.1.create, .int .i64 X.1.want, .int .i64 X.1.cool, .bool X.1.scale, .slice va X.1.ends.length vc, .bool X.1.drop] rfl ?g1b ?g1c ?g1d ?g1e ?g1f ?g1g ?_)
        case g1a => rw [HNL.out]; exact owns_later (HR.out.later HB7.out).row (blw_alloc (Below.refl _ _) _)
        try (case g1b => rfl)
        try (case g1c => exact World.news_of_block (World.alloc_heap_new _ _))
        case g1d => first | exact ⟨rfl, rfl, rfl, rfl, rfl, rfl, rfl, rfl⟩ | (intro u hu; simp at hu; rcases hu with rfl | rfl | rfl | rfl | rfl | rfl | rfl | rfl <;> rfl)
        case g1e => unfold maxLen; omega
        case g1f => omega
        case g1g => first | omega | (simp; omega)
        intro v' w8 hown hgrow _
        have eN : AcC X.1 (.slice va X.1.ends.length vc) = [.string s.nm, .int .i64 s.ver, .int .i64 X.1.create, .int .i64 X.1.want, .int .i64 X.1.cool, .bool X.1.scale, .slice va X.1.ends.length vc, .bool X.1.drop] := by simp [AcC, HSV.out.1, HSV.out.2]
        rw [← eN] at hown
        have hbt : Below wr.heap.size wr (w7.alloc (.cells #[.string s.nm, .int .i64 s.ver, .int .i64 X.1.create, .int .i64 X.1.want, .int .i64 X.1.cool, .bool X.1.scale, .slice va X.1.ends.length vc, .bool X.1.drop] 47)) := blw_trans HB7.out (blw_alloc (Below.refl _ _) _)
        rw [HNL.out] at hown
        have HN2 : Hid (AcsR w8 wa.heap.size v' (pTo 1 K (k + 1)) (es ++ [.slice va X.1.ends.length vc])) := by
          rw [HQ.out]
          exact HR.out.push hbt (owns_base (owns_later HO7.out (blw_alloc (Below.refl _ _) _)) h4r) HW.out.size hown (by rw [HNL.out] at hgrow; exact hgrow)
        have HB8 : Hid (Below wa.heap.size wa w8) := by
          refine Below.grown (blw_trans HW.out hbt) hgrow (blw_trans HW.out hbt).size (fun q hq => ?_)
          rw [HNL.out] at hq
          exact (World.ownsRow.lt HR.out.row q hq).1
        clear hown hgrow hbt eN
        go_wp2
        go_roundw
        case rel => exact ⟨k + 1, _, by omega, by go_num, HN2.out, HB8.out⟩
        case measure => simp [intOf]; omega
      · obtain ⟨X, hX⟩ : ∃ X, X = pAc 2 K s n L lv := ⟨_, rfl⟩
        rw [← hX] at HPA
        have HSV : Hid (X.1.svc = s.nm ∧ X.1.seen = s.ver) := by show _ ∧ _; rw [hX]; exact pAc_svc _ _ _ _ _ _
        have HST : Hid (∀ W, Below w4.heap.size w4 W → Calls Tryz.prog 25 #[.agg gs.toArray] W fun e w' => (∃ va vc, e = .returned (.tuple #[.agg #[.string ByteArray.empty, .int .i64 0, .int .i64 X.1.create, .int .i64 X.1.want, .int .i64 X.1.cool, .bool X.1.scale, .slice va X.1.ends.length vc, .bool X.1.drop], .bool X.2]) ∧ w'.ownsRow W.heap.size 114 2 (.slice va (X.1.ends).length vc) (X.1.ends).length ((X.1.ends).flatMap EnC)) ∧ Below W.heap.size W w') := fun W hW => by rw [hX, ← HGS.out]; exact st2 K (some ⟨b, off, none⟩) a1 a2 c0 c1 c2 s n al cl L lv W (HH.out.later (blw_trans HB.out (blw_trans HW.out (blw_trans HB14.out hW)))) HAS.out HLN.out HVS.out HNL2.out (HCV4.out.later hW) HLL.out
        have f2 := HF5.out.get 2 _ rfl
        clear hX HGS
        go_wp2_with fail
        refine (HST.out w4 (Below.refl _ _)).mono ?_
        rintro e w5 ⟨⟨va, vc, rfl, ho⟩, hb5⟩
        have HO5 := hid ho
        obtain ⟨w6, hw6⟩ : ∃ w6, w6 = w5.alloc (.cells #[.string ByteArray.empty, .int .i64 0, .int .i64 X.1.create, .int .i64 X.1.want, .int .i64 X.1.cool, .bool X.1.scale, .slice va X.1.ends.length vc, .bool X.1.drop] 47) := ⟨_, rfl⟩
        obtain ⟨q6, hq6⟩ : ∃ q6, q6 = w5.heap.size := ⟨_, rfl⟩
        have hb6 : Below w5.heap.size w5 w6 := by rw [hw6]; exact blw_alloc (Below.refl _ _) _
        have HA6 : Hid (OwnBlk w6 q6 47 8) := by show OwnBlk _ _ _ _; rw [hw6]; exact OwnBlk.alloc_at2 _ _ _ _ _ rfl hq6
        have HP6 : Hid (LBox w6 q6 [.string ByteArray.empty, .int .i64 0, .int .i64 X.1.create, .int .i64 X.1.want, .int .i64 X.1.cool, .bool X.1.scale, .slice va X.1.ends.length vc, .bool X.1.drop]) := by show LBox _ _ _; rw [hw6]; exact LBox.new _ _ _ _ hq6
        have HB6 := hid (blw_trans HB14.out (blw_trans hb5 hb6))
        have HS6 := hid (HS4.out.later (blw_trans hb5 hb6))
        have HO6 : Hid (w6.ownsRow w4.heap.size 114 2 (.slice va X.1.ends.length vc) X.1.ends.length (X.1.ends.flatMap EnC)) := owns_later HO5.out hb6
        have hq14 : wr.heap.size ≤ q6 := by rw [hq6]; exact Nat.le_trans HB14.out.size hb5.size
        have h4r : wr.heap.size ≤ w4.heap.size := HB14.out.size
        go_upto_region 10 with fail
        rw [← hw6, ← hq6]
        clear hw6 hq6 hb6 hb5 ho f2 fz HO5 HST HF5 HB14 HS4 HCV4 HB4
        cases hX2 : X.2
        · have HQ : Hid (pTo 2 K (k + 1) = pTo 2 K k) := by show _ = _; rw [HS.out, HPA.out, hX2]; simp
          clear HS HPA
          go_wp2
          go_roundw
          case rel => exact ⟨k + 1, es, by omega, by go_num, by rw [HQ.out, HNL.out]; exact HR.out.later HB6.out, blw_trans HW.out HB6.out⟩
          case measure => simp [intOf]; omega
        have HQ : Hid (pTo 2 K (k + 1) = pTo 2 K k ++ [X.1]) := by show _ = _; rw [HS.out, HPA.out, hX2]; simp
        clear HS HPA
        have tz := HS6.out.lt
        have t0 := HS6.out.get 0 _ rfl
        have t1 := HS6.out.get 1 _ rfl
        have pz := HP6.out.lt
        have p0 := HP6.out.get 0 _ rfl
        have p1 := HP6.out.get 1 _ rfl
        have hfz := HA6.out.frozen
        obtain ⟨w7, hw7⟩ : ∃ w7, w7 = ((w6.setCell ⟨q6, 0, none⟩ (.string s.nm)).setCell ⟨q6, 1, none⟩ (.int .i64 s.ver)).drew := ⟨_, rfl⟩
        have HB7 : Hid (Below wr.heap.size wr w7) := by show Below _ _ _; rw [hw7]; exact Below.drew ((HB6.out.setCell (p := ⟨q6, 0, none⟩) hq14 _).setCell (p := ⟨q6, 1, none⟩) hq14 _)
        have HO7 : Hid (w7.ownsRow w4.heap.size 114 2 (.slice va X.1.ends.length vc) X.1.ends.length (X.1.ends.flatMap EnC)) := by show World.ownsRow _ _ _ _ _ _ _; rw [hw7]; exact owns_later (owns_tsc (HA6.out.setCell 0 _) (owns_tsc HA6.out HO6.out)) (Below.drew (Below.refl _ _))
        have HP7 : Hid (LBox w7 q6 [.string s.nm, .int .i64 s.ver, .int .i64 X.1.create, .int .i64 X.1.want, .int .i64 X.1.cool, .bool X.1.scale, .slice va X.1.ends.length vc, .bool X.1.drop]) := by
          show LBox _ _ _
          rw [hw7]
          refine ⟨by have := HP6.out.lt; show q6 < ((w6.setCell ⟨q6, 0, none⟩ (.string s.nm)).setCell ⟨q6, 1, none⟩ (.int .i64 s.ver)).heap.size; rw [sc_size, sc_size]; exact this, fun j v hv => ?_⟩
          rw [Nat.zero_add]
          have e0 : ((w6.setCell ⟨q6, 0, none⟩ (.string s.nm)).setCell ⟨q6, 1, none⟩ (.int .i64 s.ver)).cell? ⟨q6, 0, none⟩ = some (.string s.nm) := (sc_ne _ _ _ _ _ _ (Or.inr (by decide))).trans (sc_eq HA6.out 0 (by decide) _)
          have e1 : ((w6.setCell ⟨q6, 0, none⟩ (.string s.nm)).setCell ⟨q6, 1, none⟩ (.int .i64 s.ver)).cell? ⟨q6, 1, none⟩ = some (.int .i64 s.ver) := sc_eq (HA6.out.setCell 0 _) 1 (by decide) _
          match j, hv with
          | 0, hv => injection hv with hv; subst hv; exact e0
          | 1, hv => injection hv with hv; subst hv; exact e1
          | 2, hv => injection hv with hv; subst hv; exact (sc_ne _ _ _ _ _ _ (Or.inr (by decide))).trans ((sc_ne _ _ _ _ _ _ (Or.inr (by decide))).trans (HP6.out.get 2 _ rfl))
          | 3, hv => injection hv with hv; subst hv; exact (sc_ne _ _ _ _ _ _ (Or.inr (by decide))).trans ((sc_ne _ _ _ _ _ _ (Or.inr (by decide))).trans (HP6.out.get 3 _ rfl))
          | 4, hv => injection hv with hv; subst hv; exact (sc_ne _ _ _ _ _ _ (Or.inr (by decide))).trans ((sc_ne _ _ _ _ _ _ (Or.inr (by decide))).trans (HP6.out.get 4 _ rfl))
          | 5, hv => injection hv with hv; subst hv; exact (sc_ne _ _ _ _ _ _ (Or.inr (by decide))).trans ((sc_ne _ _ _ _ _ _ (Or.inr (by decide))).trans (HP6.out.get 5 _ rfl))
          | 6, hv => injection hv with hv; subst hv; exact (sc_ne _ _ _ _ _ _ (Or.inr (by decide))).trans ((sc_ne _ _ _ _ _ _ (Or.inr (by decide))).trans (HP6.out.get 6 _ rfl))
          | 7, hv => injection hv with hv; subst hv; exact (sc_ne _ _ _ _ _ _ (Or.inr (by decide))).trans ((sc_ne _ _ _ _ _ _ (Or.inr (by decide))).trans (HP6.out.get 7 _ rfl))
          | n + 8, hv => simp at hv
        go_upto_region 11 with fail
        go_region
        rw [← hw7]
        clear hw7 tz t0 t1 pz p0 p1 hfz HA6 HP6 HO6 HS6 HB6
        have pz := HP7.out.lt
        have d0 := HP7.out.get 0 _ rfl
        have d1 := HP7.out.get 1 _ rfl
        have d2 := HP7.out.get 2 _ rfl
        have d3 := HP7.out.get 3 _ rfl
        have d4 := HP7.out.get 4 _ rfl
        have d5 := HP7.out.get 5 _ rfl
        have d6 := HP7.out.get 6 _ rfl
        have d7 := HP7.out.get 7 _ rfl
        have hs7 : wa.heap.size ≤ w7.heap.size := Nat.le_trans HW.out.size HB7.out.size
        go_wp2_with (at_builtin; refine wpList_append_own _ rfl _ _ 28 rfl wa.heap.size 47 i0 _ 8 88 Tryz.undAs hi hz0 hz1 hz2 rfl (by decide) (.slice a nn c) nn (acsC (pTo 2 K k) es) rfl ?g2a ⟨w7.heap.size, 0, none⟩ 1 1 [.string s.nm, .int .i64 s.ver, .int .i64 X.1.create, .int .i64 X.1.want, .int .i64 X.1.cool, .bool X.1.scale, .slice va X.1.ends.length vc, .bool X.1.drop] rfl ?g2b ?g2c ?g2d ?g2e ?g2f ?g2g ?_)
        case g2a => rw [HNL.out]; exact owns_later (HR.out.later HB7.out).row (blw_alloc (Below.refl _ _) _)
        try (case g2b => rfl)
        try (case g2c => exact World.news_of_block (World.alloc_heap_new _ _))
        case g2d => first | exact ⟨rfl, rfl, rfl, rfl, rfl, rfl, rfl, rfl⟩ | (intro u hu; simp at hu; rcases hu with rfl | rfl | rfl | rfl | rfl | rfl | rfl | rfl <;> rfl)
        case g2e => unfold maxLen; omega
        case g2f => omega
        case g2g => first | omega | (simp; omega)
        intro v' w8 hown hgrow _
        have eN : AcC X.1 (.slice va X.1.ends.length vc) = [.string s.nm, .int .i64 s.ver, .int .i64 X.1.create, .int .i64 X.1.want, .int .i64 X.1.cool, .bool X.1.scale, .slice va X.1.ends.length vc, .bool X.1.drop] := by simp [AcC, HSV.out.1, HSV.out.2]
        rw [← eN] at hown
        have hbt : Below wr.heap.size wr (w7.alloc (.cells #[.string s.nm, .int .i64 s.ver, .int .i64 X.1.create, .int .i64 X.1.want, .int .i64 X.1.cool, .bool X.1.scale, .slice va X.1.ends.length vc, .bool X.1.drop] 47)) := blw_trans HB7.out (blw_alloc (Below.refl _ _) _)
        rw [HNL.out] at hown
        have HN2 : Hid (AcsR w8 wa.heap.size v' (pTo 2 K (k + 1)) (es ++ [.slice va X.1.ends.length vc])) := by
          rw [HQ.out]
          exact HR.out.push hbt (owns_base (owns_later HO7.out (blw_alloc (Below.refl _ _) _)) h4r) HW.out.size hown (by rw [HNL.out] at hgrow; exact hgrow)
        have HB8 : Hid (Below wa.heap.size wa w8) := by
          refine Below.grown (blw_trans HW.out hbt) hgrow (blw_trans HW.out hbt).size (fun q hq => ?_)
          rw [HNL.out] at hq
          exact (World.ownsRow.lt HR.out.row q hq).1
        clear hown hgrow hbt eN
        go_wp2
        go_roundw
        case rel => exact ⟨k + 1, _, by omega, by go_num, HN2.out, HB8.out⟩
        case measure => simp [intOf]; omega
      · obtain ⟨X, hX⟩ : ∃ X, X = pAc 3 K s n L lv := ⟨_, rfl⟩
        rw [← hX] at HPA
        have HSV : Hid (X.1.svc = s.nm ∧ X.1.seen = s.ver) := by show _ ∧ _; rw [hX]; exact pAc_svc _ _ _ _ _ _
        have HST : Hid (∀ W, Below w4.heap.size w4 W → Calls Tryz.prog 26 #[.agg gs.toArray] W fun e w' => (∃ va vc, e = .returned (.tuple #[.agg #[.string ByteArray.empty, .int .i64 0, .int .i64 X.1.create, .int .i64 X.1.want, .int .i64 X.1.cool, .bool X.1.scale, .slice va X.1.ends.length vc, .bool X.1.drop], .bool X.2]) ∧ w'.ownsRow W.heap.size 114 2 (.slice va (X.1.ends).length vc) (X.1.ends).length ((X.1.ends).flatMap EnC)) ∧ Below W.heap.size W w') := fun W hW => by rw [hX, ← HGS.out]; exact st3 K (some ⟨b, off, none⟩) a1 a2 c0 c1 c2 s n al cl L lv W (HCV4.out.later hW) HLL.out
        have f3 := HF5.out.get 3 _ rfl
        clear hX HGS
        go_wp2_with fail
        refine (HST.out w4 (Below.refl _ _)).mono ?_
        rintro e w5 ⟨⟨va, vc, rfl, ho⟩, hb5⟩
        have HO5 := hid ho
        obtain ⟨w6, hw6⟩ : ∃ w6, w6 = w5.alloc (.cells #[.string ByteArray.empty, .int .i64 0, .int .i64 X.1.create, .int .i64 X.1.want, .int .i64 X.1.cool, .bool X.1.scale, .slice va X.1.ends.length vc, .bool X.1.drop] 47) := ⟨_, rfl⟩
        obtain ⟨q6, hq6⟩ : ∃ q6, q6 = w5.heap.size := ⟨_, rfl⟩
        have hb6 : Below w5.heap.size w5 w6 := by rw [hw6]; exact blw_alloc (Below.refl _ _) _
        have HA6 : Hid (OwnBlk w6 q6 47 8) := by show OwnBlk _ _ _ _; rw [hw6]; exact OwnBlk.alloc_at2 _ _ _ _ _ rfl hq6
        have HP6 : Hid (LBox w6 q6 [.string ByteArray.empty, .int .i64 0, .int .i64 X.1.create, .int .i64 X.1.want, .int .i64 X.1.cool, .bool X.1.scale, .slice va X.1.ends.length vc, .bool X.1.drop]) := by show LBox _ _ _; rw [hw6]; exact LBox.new _ _ _ _ hq6
        have HB6 := hid (blw_trans HB14.out (blw_trans hb5 hb6))
        have HS6 := hid (HS4.out.later (blw_trans hb5 hb6))
        have HO6 : Hid (w6.ownsRow w4.heap.size 114 2 (.slice va X.1.ends.length vc) X.1.ends.length (X.1.ends.flatMap EnC)) := owns_later HO5.out hb6
        have hq14 : wr.heap.size ≤ q6 := by rw [hq6]; exact Nat.le_trans HB14.out.size hb5.size
        have h4r : wr.heap.size ≤ w4.heap.size := HB14.out.size
        go_upto_region 10 with fail
        rw [← hw6, ← hq6]
        clear hw6 hq6 hb6 hb5 ho f3 fz HO5 HST HF5 HB14 HS4 HCV4 HB4
        cases hX2 : X.2
        · have HQ : Hid (pTo 3 K (k + 1) = pTo 3 K k) := by show _ = _; rw [HS.out, HPA.out, hX2]; simp
          clear HS HPA
          go_wp2
          go_roundw
          case rel => exact ⟨k + 1, es, by omega, by go_num, by rw [HQ.out, HNL.out]; exact HR.out.later HB6.out, blw_trans HW.out HB6.out⟩
          case measure => simp [intOf]; omega
        have HQ : Hid (pTo 3 K (k + 1) = pTo 3 K k ++ [X.1]) := by show _ = _; rw [HS.out, HPA.out, hX2]; simp
        clear HS HPA
        have tz := HS6.out.lt
        have t0 := HS6.out.get 0 _ rfl
        have t1 := HS6.out.get 1 _ rfl
        have pz := HP6.out.lt
        have p0 := HP6.out.get 0 _ rfl
        have p1 := HP6.out.get 1 _ rfl
        have hfz := HA6.out.frozen
        obtain ⟨w7, hw7⟩ : ∃ w7, w7 = ((w6.setCell ⟨q6, 0, none⟩ (.string s.nm)).setCell ⟨q6, 1, none⟩ (.int .i64 s.ver)).drew := ⟨_, rfl⟩
        have HB7 : Hid (Below wr.heap.size wr w7) := by show Below _ _ _; rw [hw7]; exact Below.drew ((HB6.out.setCell (p := ⟨q6, 0, none⟩) hq14 _).setCell (p := ⟨q6, 1, none⟩) hq14 _)
        have HO7 : Hid (w7.ownsRow w4.heap.size 114 2 (.slice va X.1.ends.length vc) X.1.ends.length (X.1.ends.flatMap EnC)) := by show World.ownsRow _ _ _ _ _ _ _; rw [hw7]; exact owns_later (owns_tsc (HA6.out.setCell 0 _) (owns_tsc HA6.out HO6.out)) (Below.drew (Below.refl _ _))
        have HP7 : Hid (LBox w7 q6 [.string s.nm, .int .i64 s.ver, .int .i64 X.1.create, .int .i64 X.1.want, .int .i64 X.1.cool, .bool X.1.scale, .slice va X.1.ends.length vc, .bool X.1.drop]) := by
          show LBox _ _ _
          rw [hw7]
          refine ⟨by have := HP6.out.lt; show q6 < ((w6.setCell ⟨q6, 0, none⟩ (.string s.nm)).setCell ⟨q6, 1, none⟩ (.int .i64 s.ver)).heap.size; rw [sc_size, sc_size]; exact this, fun j v hv => ?_⟩
          rw [Nat.zero_add]
          have e0 : ((w6.setCell ⟨q6, 0, none⟩ (.string s.nm)).setCell ⟨q6, 1, none⟩ (.int .i64 s.ver)).cell? ⟨q6, 0, none⟩ = some (.string s.nm) := (sc_ne _ _ _ _ _ _ (Or.inr (by decide))).trans (sc_eq HA6.out 0 (by decide) _)
          have e1 : ((w6.setCell ⟨q6, 0, none⟩ (.string s.nm)).setCell ⟨q6, 1, none⟩ (.int .i64 s.ver)).cell? ⟨q6, 1, none⟩ = some (.int .i64 s.ver) := sc_eq (HA6.out.setCell 0 _) 1 (by decide) _
          match j, hv with
          | 0, hv => injection hv with hv; subst hv; exact e0
          | 1, hv => injection hv with hv; subst hv; exact e1
          | 2, hv => injection hv with hv; subst hv; exact (sc_ne _ _ _ _ _ _ (Or.inr (by decide))).trans ((sc_ne _ _ _ _ _ _ (Or.inr (by decide))).trans (HP6.out.get 2 _ rfl))
          | 3, hv => injection hv with hv; subst hv; exact (sc_ne _ _ _ _ _ _ (Or.inr (by decide))).trans ((sc_ne _ _ _ _ _ _ (Or.inr (by decide))).trans (HP6.out.get 3 _ rfl))
          | 4, hv => injection hv with hv; subst hv; exact (sc_ne _ _ _ _ _ _ (Or.inr (by decide))).trans ((sc_ne _ _ _ _ _ _ (Or.inr (by decide))).trans (HP6.out.get 4 _ rfl))
          | 5, hv => injection hv with hv; subst hv; exact (sc_ne _ _ _ _ _ _ (Or.inr (by decide))).trans ((sc_ne _ _ _ _ _ _ (Or.inr (by decide))).trans (HP6.out.get 5 _ rfl))
          | 6, hv => injection hv with hv; subst hv; exact (sc_ne _ _ _ _ _ _ (Or.inr (by decide))).trans ((sc_ne _ _ _ _ _ _ (Or.inr (by decide))).trans (HP6.out.get 6 _ rfl))
          | 7, hv => injection hv with hv; subst hv; exact (sc_ne _ _ _ _ _ _ (Or.inr (by decide))).trans ((sc_ne _ _ _ _ _ _ (Or.inr (by decide))).trans (HP6.out.get 7 _ rfl))
          | n + 8, hv => simp at hv
        go_upto_region 11 with fail
        go_region
        rw [← hw7]
        clear hw7 tz t0 t1 pz p0 p1 hfz HA6 HP6 HO6 HS6 HB6
        have pz := HP7.out.lt
        have d0 := HP7.out.get 0 _ rfl
        have d1 := HP7.out.get 1 _ rfl
        have d2 := HP7.out.get 2 _ rfl
        have d3 := HP7.out.get 3 _ rfl
        have d4 := HP7.out.get 4 _ rfl
        have d5 := HP7.out.get 5 _ rfl
        have d6 := HP7.out.get 6 _ rfl
        have d7 := HP7.out.get 7 _ rfl
        have hs7 : wa.heap.size ≤ w7.heap.size := Nat.le_trans HW.out.size HB7.out.size
        go_wp2_with (at_builtin; refine wpList_append_own _ rfl _ _ 28 rfl wa.heap.size 47 i0 _ 8 88 Tryz.undAs hi hz0 hz1 hz2 rfl (by decide) (.slice a nn c) nn (acsC (pTo 3 K k) es) rfl ?g3a ⟨w7.heap.size, 0, none⟩ 1 1 [.string s.nm, .int .i64 s.ver, .int .i64 X.1.create, .int .i64 X.1.want, .int .i64 X.1.cool, .bool X.1.scale, .slice va X.1.ends.length vc, .bool X.1.drop] rfl ?g3b ?g3c ?g3d ?g3e ?g3f ?g3g ?_)
        case g3a => rw [HNL.out]; exact owns_later (HR.out.later HB7.out).row (blw_alloc (Below.refl _ _) _)
        try (case g3b => rfl)
        try (case g3c => exact World.news_of_block (World.alloc_heap_new _ _))
        case g3d => first | exact ⟨rfl, rfl, rfl, rfl, rfl, rfl, rfl, rfl⟩ | (intro u hu; simp at hu; rcases hu with rfl | rfl | rfl | rfl | rfl | rfl | rfl | rfl <;> rfl)
        case g3e => unfold maxLen; omega
        case g3f => omega
        case g3g => first | omega | (simp; omega)
        intro v' w8 hown hgrow _
        have eN : AcC X.1 (.slice va X.1.ends.length vc) = [.string s.nm, .int .i64 s.ver, .int .i64 X.1.create, .int .i64 X.1.want, .int .i64 X.1.cool, .bool X.1.scale, .slice va X.1.ends.length vc, .bool X.1.drop] := by simp [AcC, HSV.out.1, HSV.out.2]
        rw [← eN] at hown
        have hbt : Below wr.heap.size wr (w7.alloc (.cells #[.string s.nm, .int .i64 s.ver, .int .i64 X.1.create, .int .i64 X.1.want, .int .i64 X.1.cool, .bool X.1.scale, .slice va X.1.ends.length vc, .bool X.1.drop] 47)) := blw_trans HB7.out (blw_alloc (Below.refl _ _) _)
        rw [HNL.out] at hown
        have HN2 : Hid (AcsR w8 wa.heap.size v' (pTo 3 K (k + 1)) (es ++ [.slice va X.1.ends.length vc])) := by
          rw [HQ.out]
          exact HR.out.push hbt (owns_base (owns_later HO7.out (blw_alloc (Below.refl _ _) _)) h4r) HW.out.size hown (by rw [HNL.out] at hgrow; exact hgrow)
        have HB8 : Hid (Below wa.heap.size wa w8) := by
          refine Below.grown (blw_trans HW.out hbt) hgrow (blw_trans HW.out hbt).size (fun q hq => ?_)
          rw [HNL.out] at hq
          exact (World.ownsRow.lt HR.out.row q hq).1
        clear hown hgrow hbt eN
        go_wp2
        go_roundw
        case rel => exact ⟨k + 1, _, by omega, by go_num, HN2.out, HB8.out⟩
        case measure => simp [intOf]; omega
      · obtain ⟨X, hX⟩ : ∃ X, X = pAc 4 K s n L lv := ⟨_, rfl⟩
        rw [← hX] at HPA
        have HSV : Hid (X.1.svc = s.nm ∧ X.1.seen = s.ver) := by show _ ∧ _; rw [hX]; exact pAc_svc _ _ _ _ _ _
        have HST : Hid (∀ W, Below w4.heap.size w4 W → Calls Tryz.prog 27 #[.agg gs.toArray] W fun e w' => (∃ va vc, e = .returned (.tuple #[.agg #[.string ByteArray.empty, .int .i64 0, .int .i64 X.1.create, .int .i64 X.1.want, .int .i64 X.1.cool, .bool X.1.scale, .slice va X.1.ends.length vc, .bool X.1.drop], .bool X.2]) ∧ w'.ownsRow W.heap.size 114 2 (.slice va (X.1.ends).length vc) (X.1.ends).length ((X.1.ends).flatMap EnC)) ∧ Below W.heap.size W w') := fun W _ => by rw [hX, ← HGS.out]; exact st4 K (some ⟨b, off, none⟩) a1 a2 c0 c1 c2 s n al cl L lv W HVS.out
        have f4 := HF5.out.get 4 _ rfl
        clear hX HGS
        go_wp2_with fail
        refine (HST.out w4 (Below.refl _ _)).mono ?_
        rintro e w5 ⟨⟨va, vc, rfl, ho⟩, hb5⟩
        have HO5 := hid ho
        obtain ⟨w6, hw6⟩ : ∃ w6, w6 = w5.alloc (.cells #[.string ByteArray.empty, .int .i64 0, .int .i64 X.1.create, .int .i64 X.1.want, .int .i64 X.1.cool, .bool X.1.scale, .slice va X.1.ends.length vc, .bool X.1.drop] 47) := ⟨_, rfl⟩
        obtain ⟨q6, hq6⟩ : ∃ q6, q6 = w5.heap.size := ⟨_, rfl⟩
        have hb6 : Below w5.heap.size w5 w6 := by rw [hw6]; exact blw_alloc (Below.refl _ _) _
        have HA6 : Hid (OwnBlk w6 q6 47 8) := by show OwnBlk _ _ _ _; rw [hw6]; exact OwnBlk.alloc_at2 _ _ _ _ _ rfl hq6
        have HP6 : Hid (LBox w6 q6 [.string ByteArray.empty, .int .i64 0, .int .i64 X.1.create, .int .i64 X.1.want, .int .i64 X.1.cool, .bool X.1.scale, .slice va X.1.ends.length vc, .bool X.1.drop]) := by show LBox _ _ _; rw [hw6]; exact LBox.new _ _ _ _ hq6
        have HB6 := hid (blw_trans HB14.out (blw_trans hb5 hb6))
        have HS6 := hid (HS4.out.later (blw_trans hb5 hb6))
        have HO6 : Hid (w6.ownsRow w4.heap.size 114 2 (.slice va X.1.ends.length vc) X.1.ends.length (X.1.ends.flatMap EnC)) := owns_later HO5.out hb6
        have hq14 : wr.heap.size ≤ q6 := by rw [hq6]; exact Nat.le_trans HB14.out.size hb5.size
        have h4r : wr.heap.size ≤ w4.heap.size := HB14.out.size
        go_upto_region 10 with fail
        rw [← hw6, ← hq6]
        clear hw6 hq6 hb6 hb5 ho f4 fz HO5 HST HF5 HB14 HS4 HCV4 HB4
        cases hX2 : X.2
        · have HQ : Hid (pTo 4 K (k + 1) = pTo 4 K k) := by show _ = _; rw [HS.out, HPA.out, hX2]; simp
          clear HS HPA
          go_wp2
          go_roundw
          case rel => exact ⟨k + 1, es, by omega, by go_num, by rw [HQ.out, HNL.out]; exact HR.out.later HB6.out, blw_trans HW.out HB6.out⟩
          case measure => simp [intOf]; omega
        have HQ : Hid (pTo 4 K (k + 1) = pTo 4 K k ++ [X.1]) := by show _ = _; rw [HS.out, HPA.out, hX2]; simp
        clear HS HPA
        have tz := HS6.out.lt
        have t0 := HS6.out.get 0 _ rfl
        have t1 := HS6.out.get 1 _ rfl
        have pz := HP6.out.lt
        have p0 := HP6.out.get 0 _ rfl
        have p1 := HP6.out.get 1 _ rfl
        have hfz := HA6.out.frozen
        obtain ⟨w7, hw7⟩ : ∃ w7, w7 = ((w6.setCell ⟨q6, 0, none⟩ (.string s.nm)).setCell ⟨q6, 1, none⟩ (.int .i64 s.ver)).drew := ⟨_, rfl⟩
        have HB7 : Hid (Below wr.heap.size wr w7) := by show Below _ _ _; rw [hw7]; exact Below.drew ((HB6.out.setCell (p := ⟨q6, 0, none⟩) hq14 _).setCell (p := ⟨q6, 1, none⟩) hq14 _)
        have HO7 : Hid (w7.ownsRow w4.heap.size 114 2 (.slice va X.1.ends.length vc) X.1.ends.length (X.1.ends.flatMap EnC)) := by show World.ownsRow _ _ _ _ _ _ _; rw [hw7]; exact owns_later (owns_tsc (HA6.out.setCell 0 _) (owns_tsc HA6.out HO6.out)) (Below.drew (Below.refl _ _))
        have HP7 : Hid (LBox w7 q6 [.string s.nm, .int .i64 s.ver, .int .i64 X.1.create, .int .i64 X.1.want, .int .i64 X.1.cool, .bool X.1.scale, .slice va X.1.ends.length vc, .bool X.1.drop]) := by
          show LBox _ _ _
          rw [hw7]
          refine ⟨by have := HP6.out.lt; show q6 < ((w6.setCell ⟨q6, 0, none⟩ (.string s.nm)).setCell ⟨q6, 1, none⟩ (.int .i64 s.ver)).heap.size; rw [sc_size, sc_size]; exact this, fun j v hv => ?_⟩
          rw [Nat.zero_add]
          have e0 : ((w6.setCell ⟨q6, 0, none⟩ (.string s.nm)).setCell ⟨q6, 1, none⟩ (.int .i64 s.ver)).cell? ⟨q6, 0, none⟩ = some (.string s.nm) := (sc_ne _ _ _ _ _ _ (Or.inr (by decide))).trans (sc_eq HA6.out 0 (by decide) _)
          have e1 : ((w6.setCell ⟨q6, 0, none⟩ (.string s.nm)).setCell ⟨q6, 1, none⟩ (.int .i64 s.ver)).cell? ⟨q6, 1, none⟩ = some (.int .i64 s.ver) := sc_eq (HA6.out.setCell 0 _) 1 (by decide) _
          match j, hv with
          | 0, hv => injection hv with hv; subst hv; exact e0
          | 1, hv => injection hv with hv; subst hv; exact e1
          | 2, hv => injection hv with hv; subst hv; exact (sc_ne _ _ _ _ _ _ (Or.inr (by decide))).trans ((sc_ne _ _ _ _ _ _ (Or.inr (by decide))).trans (HP6.out.get 2 _ rfl))
          | 3, hv => injection hv with hv; subst hv; exact (sc_ne _ _ _ _ _ _ (Or.inr (by decide))).trans ((sc_ne _ _ _ _ _ _ (Or.inr (by decide))).trans (HP6.out.get 3 _ rfl))
          | 4, hv => injection hv with hv; subst hv; exact (sc_ne _ _ _ _ _ _ (Or.inr (by decide))).trans ((sc_ne _ _ _ _ _ _ (Or.inr (by decide))).trans (HP6.out.get 4 _ rfl))
          | 5, hv => injection hv with hv; subst hv; exact (sc_ne _ _ _ _ _ _ (Or.inr (by decide))).trans ((sc_ne _ _ _ _ _ _ (Or.inr (by decide))).trans (HP6.out.get 5 _ rfl))
          | 6, hv => injection hv with hv; subst hv; exact (sc_ne _ _ _ _ _ _ (Or.inr (by decide))).trans ((sc_ne _ _ _ _ _ _ (Or.inr (by decide))).trans (HP6.out.get 6 _ rfl))
          | 7, hv => injection hv with hv; subst hv; exact (sc_ne _ _ _ _ _ _ (Or.inr (by decide))).trans ((sc_ne _ _ _ _ _ _ (Or.inr (by decide))).trans (HP6.out.get 7 _ rfl))
          | n + 8, hv => simp at hv
        go_upto_region 11 with fail
        go_region
        rw [← hw7]
        clear hw7 tz t0 t1 pz p0 p1 hfz HA6 HP6 HO6 HS6 HB6
        have pz := HP7.out.lt
        have d0 := HP7.out.get 0 _ rfl
        have d1 := HP7.out.get 1 _ rfl
        have d2 := HP7.out.get 2 _ rfl
        have d3 := HP7.out.get 3 _ rfl
        have d4 := HP7.out.get 4 _ rfl
        have d5 := HP7.out.get 5 _ rfl
        have d6 := HP7.out.get 6 _ rfl
        have d7 := HP7.out.get 7 _ rfl
        have hs7 : wa.heap.size ≤ w7.heap.size := Nat.le_trans HW.out.size HB7.out.size
        go_wp2_with (at_builtin; refine wpList_append_own _ rfl _ _ 28 rfl wa.heap.size 47 i0 _ 8 88 Tryz.undAs hi hz0 hz1 hz2 rfl (by decide) (.slice a nn c) nn (acsC (pTo 4 K k) es) rfl ?g4a ⟨w7.heap.size, 0, none⟩ 1 1 [.string s.nm, .int .i64 s.ver, .int .i64 X.1.create, .int .i64 X.1.want, .int .i64 X.1.cool, .bool X.1.scale, .slice va X.1.ends.length vc, .bool X.1.drop] rfl ?g4b ?g4c ?g4d ?g4e ?g4f ?g4g ?_)
        case g4a => rw [HNL.out]; exact owns_later (HR.out.later HB7.out).row (blw_alloc (Below.refl _ _) _)
        try (case g4b => rfl)
        try (case g4c => exact World.news_of_block (World.alloc_heap_new _ _))
        case g4d => first | exact ⟨rfl, rfl, rfl, rfl, rfl, rfl, rfl, rfl⟩ | (intro u hu; simp at hu; rcases hu with rfl | rfl | rfl | rfl | rfl | rfl | rfl | rfl <;> rfl)
        case g4e => unfold maxLen; omega
        case g4f => omega
        case g4g => first | omega | (simp; omega)
        intro v' w8 hown hgrow _
        have eN : AcC X.1 (.slice va X.1.ends.length vc) = [.string s.nm, .int .i64 s.ver, .int .i64 X.1.create, .int .i64 X.1.want, .int .i64 X.1.cool, .bool X.1.scale, .slice va X.1.ends.length vc, .bool X.1.drop] := by simp [AcC, HSV.out.1, HSV.out.2]
        rw [← eN] at hown
        have hbt : Below wr.heap.size wr (w7.alloc (.cells #[.string s.nm, .int .i64 s.ver, .int .i64 X.1.create, .int .i64 X.1.want, .int .i64 X.1.cool, .bool X.1.scale, .slice va X.1.ends.length vc, .bool X.1.drop] 47)) := blw_trans HB7.out (blw_alloc (Below.refl _ _) _)
        rw [HNL.out] at hown
        have HN2 : Hid (AcsR w8 wa.heap.size v' (pTo 4 K (k + 1)) (es ++ [.slice va X.1.ends.length vc])) := by
          rw [HQ.out]
          exact HR.out.push hbt (owns_base (owns_later HO7.out (blw_alloc (Below.refl _ _) _)) h4r) HW.out.size hown (by rw [HNL.out] at hgrow; exact hgrow)
        have HB8 : Hid (Below wa.heap.size wa w8) := by
          refine Below.grown (blw_trans HW.out hbt) hgrow (blw_trans HW.out hbt).size (fun q hq => ?_)
          rw [HNL.out] at hq
          exact (World.ownsRow.lt HR.out.row q hq).1
        clear hown hgrow hbt eN
        go_wp2
        go_roundw
        case rel => exact ⟨k + 1, _, by omega, by go_num, HN2.out, HB8.out⟩
        case measure => simp [intOf]; omega
      · obtain ⟨X, hX⟩ : ∃ X, X = pAc 5 K s n L lv := ⟨_, rfl⟩
        rw [← hX] at HPA
        have HSV : Hid (X.1.svc = s.nm ∧ X.1.seen = s.ver) := by show _ ∧ _; rw [hX]; exact pAc_svc _ _ _ _ _ _
        have HST : Hid (∀ W, Below w4.heap.size w4 W → Calls Tryz.prog 28 #[.agg gs.toArray] W fun e w' => (∃ va vc, e = .returned (.tuple #[.agg #[.string ByteArray.empty, .int .i64 0, .int .i64 X.1.create, .int .i64 X.1.want, .int .i64 X.1.cool, .bool X.1.scale, .slice va X.1.ends.length vc, .bool X.1.drop], .bool X.2]) ∧ w'.ownsRow W.heap.size 114 2 (.slice va (X.1.ends).length vc) (X.1.ends).length ((X.1.ends).flatMap EnC)) ∧ Below W.heap.size W w') := fun W hW => by rw [hX, ← HGS.out]; exact st5 K (some ⟨b, off, none⟩) a1 a2 c0 c1 c2 s n al cl L lv W HNL2.out (HCV4.out.later hW) HLL.out
        have f5 := HF5.out.get 5 _ rfl
        clear hX HGS
        go_wp2_with fail
        refine (HST.out w4 (Below.refl _ _)).mono ?_
        rintro e w5 ⟨⟨va, vc, rfl, ho⟩, hb5⟩
        have HO5 := hid ho
        obtain ⟨w6, hw6⟩ : ∃ w6, w6 = w5.alloc (.cells #[.string ByteArray.empty, .int .i64 0, .int .i64 X.1.create, .int .i64 X.1.want, .int .i64 X.1.cool, .bool X.1.scale, .slice va X.1.ends.length vc, .bool X.1.drop] 47) := ⟨_, rfl⟩
        obtain ⟨q6, hq6⟩ : ∃ q6, q6 = w5.heap.size := ⟨_, rfl⟩
        have hb6 : Below w5.heap.size w5 w6 := by rw [hw6]; exact blw_alloc (Below.refl _ _) _
        have HA6 : Hid (OwnBlk w6 q6 47 8) := by show OwnBlk _ _ _ _; rw [hw6]; exact OwnBlk.alloc_at2 _ _ _ _ _ rfl hq6
        have HP6 : Hid (LBox w6 q6 [.string ByteArray.empty, .int .i64 0, .int .i64 X.1.create, .int .i64 X.1.want, .int .i64 X.1.cool, .bool X.1.scale, .slice va X.1.ends.length vc, .bool X.1.drop]) := by show LBox _ _ _; rw [hw6]; exact LBox.new _ _ _ _ hq6
        have HB6 := hid (blw_trans HB14.out (blw_trans hb5 hb6))
        have HS6 := hid (HS4.out.later (blw_trans hb5 hb6))
        have HO6 : Hid (w6.ownsRow w4.heap.size 114 2 (.slice va X.1.ends.length vc) X.1.ends.length (X.1.ends.flatMap EnC)) := owns_later HO5.out hb6
        have hq14 : wr.heap.size ≤ q6 := by rw [hq6]; exact Nat.le_trans HB14.out.size hb5.size
        have h4r : wr.heap.size ≤ w4.heap.size := HB14.out.size
        go_upto_region 10 with fail
        rw [← hw6, ← hq6]
        clear hw6 hq6 hb6 hb5 ho f5 fz HO5 HST HF5 HB14 HS4 HCV4 HB4
        cases hX2 : X.2
        · have HQ : Hid (pTo 5 K (k + 1) = pTo 5 K k) := by show _ = _; rw [HS.out, HPA.out, hX2]; simp
          clear HS HPA
          go_wp2
          go_roundw
          case rel => exact ⟨k + 1, es, by omega, by go_num, by rw [HQ.out, HNL.out]; exact HR.out.later HB6.out, blw_trans HW.out HB6.out⟩
          case measure => simp [intOf]; omega
        have HQ : Hid (pTo 5 K (k + 1) = pTo 5 K k ++ [X.1]) := by show _ = _; rw [HS.out, HPA.out, hX2]; simp
        clear HS HPA
        have tz := HS6.out.lt
        have t0 := HS6.out.get 0 _ rfl
        have t1 := HS6.out.get 1 _ rfl
        have pz := HP6.out.lt
        have p0 := HP6.out.get 0 _ rfl
        have p1 := HP6.out.get 1 _ rfl
        have hfz := HA6.out.frozen
        obtain ⟨w7, hw7⟩ : ∃ w7, w7 = ((w6.setCell ⟨q6, 0, none⟩ (.string s.nm)).setCell ⟨q6, 1, none⟩ (.int .i64 s.ver)).drew := ⟨_, rfl⟩
        have HB7 : Hid (Below wr.heap.size wr w7) := by show Below _ _ _; rw [hw7]; exact Below.drew ((HB6.out.setCell (p := ⟨q6, 0, none⟩) hq14 _).setCell (p := ⟨q6, 1, none⟩) hq14 _)
        have HO7 : Hid (w7.ownsRow w4.heap.size 114 2 (.slice va X.1.ends.length vc) X.1.ends.length (X.1.ends.flatMap EnC)) := by show World.ownsRow _ _ _ _ _ _ _; rw [hw7]; exact owns_later (owns_tsc (HA6.out.setCell 0 _) (owns_tsc HA6.out HO6.out)) (Below.drew (Below.refl _ _))
        have HP7 : Hid (LBox w7 q6 [.string s.nm, .int .i64 s.ver, .int .i64 X.1.create, .int .i64 X.1.want, .int .i64 X.1.cool, .bool X.1.scale, .slice va X.1.ends.length vc, .bool X.1.drop]) := by
          show LBox _ _ _
          rw [hw7]
          refine ⟨by have := HP6.out.lt; show q6 < ((w6.setCell ⟨q6, 0, none⟩ (.string s.nm)).setCell ⟨q6, 1, none⟩ (.int .i64 s.ver)).heap.size; rw [sc_size, sc_size]; exact this, fun j v hv => ?_⟩
          rw [Nat.zero_add]
          have e0 : ((w6.setCell ⟨q6, 0, none⟩ (.string s.nm)).setCell ⟨q6, 1, none⟩ (.int .i64 s.ver)).cell? ⟨q6, 0, none⟩ = some (.string s.nm) := (sc_ne _ _ _ _ _ _ (Or.inr (by decide))).trans (sc_eq HA6.out 0 (by decide) _)
          have e1 : ((w6.setCell ⟨q6, 0, none⟩ (.string s.nm)).setCell ⟨q6, 1, none⟩ (.int .i64 s.ver)).cell? ⟨q6, 1, none⟩ = some (.int .i64 s.ver) := sc_eq (HA6.out.setCell 0 _) 1 (by decide) _
          match j, hv with
          | 0, hv => injection hv with hv; subst hv; exact e0
          | 1, hv => injection hv with hv; subst hv; exact e1
          | 2, hv => injection hv with hv; subst hv; exact (sc_ne _ _ _ _ _ _ (Or.inr (by decide))).trans ((sc_ne _ _ _ _ _ _ (Or.inr (by decide))).trans (HP6.out.get 2 _ rfl))
          | 3, hv => injection hv with hv; subst hv; exact (sc_ne _ _ _ _ _ _ (Or.inr (by decide))).trans ((sc_ne _ _ _ _ _ _ (Or.inr (by decide))).trans (HP6.out.get 3 _ rfl))
          | 4, hv => injection hv with hv; subst hv; exact (sc_ne _ _ _ _ _ _ (Or.inr (by decide))).trans ((sc_ne _ _ _ _ _ _ (Or.inr (by decide))).trans (HP6.out.get 4 _ rfl))
          | 5, hv => injection hv with hv; subst hv; exact (sc_ne _ _ _ _ _ _ (Or.inr (by decide))).trans ((sc_ne _ _ _ _ _ _ (Or.inr (by decide))).trans (HP6.out.get 5 _ rfl))
          | 6, hv => injection hv with hv; subst hv; exact (sc_ne _ _ _ _ _ _ (Or.inr (by decide))).trans ((sc_ne _ _ _ _ _ _ (Or.inr (by decide))).trans (HP6.out.get 6 _ rfl))
          | 7, hv => injection hv with hv; subst hv; exact (sc_ne _ _ _ _ _ _ (Or.inr (by decide))).trans ((sc_ne _ _ _ _ _ _ (Or.inr (by decide))).trans (HP6.out.get 7 _ rfl))
          | n + 8, hv => simp at hv
        go_upto_region 11 with fail
        go_region
        rw [← hw7]
        clear hw7 tz t0 t1 pz p0 p1 hfz HA6 HP6 HO6 HS6 HB6
        have pz := HP7.out.lt
        have d0 := HP7.out.get 0 _ rfl
        have d1 := HP7.out.get 1 _ rfl
        have d2 := HP7.out.get 2 _ rfl
        have d3 := HP7.out.get 3 _ rfl
        have d4 := HP7.out.get 4 _ rfl
        have d5 := HP7.out.get 5 _ rfl
        have d6 := HP7.out.get 6 _ rfl
        have d7 := HP7.out.get 7 _ rfl
        have hs7 : wa.heap.size ≤ w7.heap.size := Nat.le_trans HW.out.size HB7.out.size
        go_wp2_with (at_builtin; refine wpList_append_own _ rfl _ _ 28 rfl wa.heap.size 47 i0 _ 8 88 Tryz.undAs hi hz0 hz1 hz2 rfl (by decide) (.slice a nn c) nn (acsC (pTo 5 K k) es) rfl ?g5a ⟨w7.heap.size, 0, none⟩ 1 1 [.string s.nm, .int .i64 s.ver, .int .i64 X.1.create, .int .i64 X.1.want, .int .i64 X.1.cool, .bool X.1.scale, .slice va X.1.ends.length vc, .bool X.1.drop] rfl ?g5b ?g5c ?g5d ?g5e ?g5f ?g5g ?_)
        case g5a => rw [HNL.out]; exact owns_later (HR.out.later HB7.out).row (blw_alloc (Below.refl _ _) _)
        try (case g5b => rfl)
        try (case g5c => exact World.news_of_block (World.alloc_heap_new _ _))
        case g5d => first | exact ⟨rfl, rfl, rfl, rfl, rfl, rfl, rfl, rfl⟩ | (intro u hu; simp at hu; rcases hu with rfl | rfl | rfl | rfl | rfl | rfl | rfl | rfl <;> rfl)
        case g5e => unfold maxLen; omega
        case g5f => omega
        case g5g => first | omega | (simp; omega)
        intro v' w8 hown hgrow _
        have eN : AcC X.1 (.slice va X.1.ends.length vc) = [.string s.nm, .int .i64 s.ver, .int .i64 X.1.create, .int .i64 X.1.want, .int .i64 X.1.cool, .bool X.1.scale, .slice va X.1.ends.length vc, .bool X.1.drop] := by simp [AcC, HSV.out.1, HSV.out.2]
        rw [← eN] at hown
        have hbt : Below wr.heap.size wr (w7.alloc (.cells #[.string s.nm, .int .i64 s.ver, .int .i64 X.1.create, .int .i64 X.1.want, .int .i64 X.1.cool, .bool X.1.scale, .slice va X.1.ends.length vc, .bool X.1.drop] 47)) := blw_trans HB7.out (blw_alloc (Below.refl _ _) _)
        rw [HNL.out] at hown
        have HN2 : Hid (AcsR w8 wa.heap.size v' (pTo 5 K (k + 1)) (es ++ [.slice va X.1.ends.length vc])) := by
          rw [HQ.out]
          exact HR.out.push hbt (owns_base (owns_later HO7.out (blw_alloc (Below.refl _ _) _)) h4r) HW.out.size hown (by rw [HNL.out] at hgrow; exact hgrow)
        have HB8 : Hid (Below wa.heap.size wa w8) := by
          refine Below.grown (blw_trans HW.out hbt) hgrow (blw_trans HW.out hbt).size (fun q hq => ?_)
          rw [HNL.out] at hq
          exact (World.ownsRow.lt HR.out.row q hq).1
        clear hown hgrow hbt eN
        go_wp2
        go_roundw
        case rel => exact ⟨k + 1, _, by omega, by go_num, HN2.out, HB8.out⟩
        case measure => simp [intOf]; omega
      · obtain ⟨X, hX⟩ : ∃ X, X = pAc 6 K s n L lv := ⟨_, rfl⟩
        rw [← hX] at HPA
        have HSV : Hid (X.1.svc = s.nm ∧ X.1.seen = s.ver) := by show _ ∧ _; rw [hX]; exact pAc_svc _ _ _ _ _ _
        have HST : Hid (∀ W, Below w4.heap.size w4 W → Calls Tryz.prog 29 #[.agg gs.toArray] W fun e w' => (∃ va vc, e = .returned (.tuple #[.agg #[.string ByteArray.empty, .int .i64 0, .int .i64 X.1.create, .int .i64 X.1.want, .int .i64 X.1.cool, .bool X.1.scale, .slice va X.1.ends.length vc, .bool X.1.drop], .bool X.2]) ∧ w'.ownsRow W.heap.size 114 2 (.slice va (X.1.ends).length vc) (X.1.ends).length ((X.1.ends).flatMap EnC)) ∧ Below W.heap.size W w') := fun W hW => by rw [hX, ← HGS.out]; exact st6 K (some ⟨b, off, none⟩) a1 a2 c0 c1 c2 s n al cl L lv W (HH.out.later (blw_trans HB.out (blw_trans HW.out (blw_trans HB14.out hW)))) HAS.out HLN.out HVS.out HNL2.out (HCV4.out.later hW) HLL.out
        have f6 := HF5.out.get 6 _ rfl
        clear hX HGS
        go_wp2_with fail
        refine (HST.out w4 (Below.refl _ _)).mono ?_
        rintro e w5 ⟨⟨va, vc, rfl, ho⟩, hb5⟩
        have HO5 := hid ho
        obtain ⟨w6, hw6⟩ : ∃ w6, w6 = w5.alloc (.cells #[.string ByteArray.empty, .int .i64 0, .int .i64 X.1.create, .int .i64 X.1.want, .int .i64 X.1.cool, .bool X.1.scale, .slice va X.1.ends.length vc, .bool X.1.drop] 47) := ⟨_, rfl⟩
        obtain ⟨q6, hq6⟩ : ∃ q6, q6 = w5.heap.size := ⟨_, rfl⟩
        have hb6 : Below w5.heap.size w5 w6 := by rw [hw6]; exact blw_alloc (Below.refl _ _) _
        have HA6 : Hid (OwnBlk w6 q6 47 8) := by show OwnBlk _ _ _ _; rw [hw6]; exact OwnBlk.alloc_at2 _ _ _ _ _ rfl hq6
        have HP6 : Hid (LBox w6 q6 [.string ByteArray.empty, .int .i64 0, .int .i64 X.1.create, .int .i64 X.1.want, .int .i64 X.1.cool, .bool X.1.scale, .slice va X.1.ends.length vc, .bool X.1.drop]) := by show LBox _ _ _; rw [hw6]; exact LBox.new _ _ _ _ hq6
        have HB6 := hid (blw_trans HB14.out (blw_trans hb5 hb6))
        have HS6 := hid (HS4.out.later (blw_trans hb5 hb6))
        have HO6 : Hid (w6.ownsRow w4.heap.size 114 2 (.slice va X.1.ends.length vc) X.1.ends.length (X.1.ends.flatMap EnC)) := owns_later HO5.out hb6
        have hq14 : wr.heap.size ≤ q6 := by rw [hq6]; exact Nat.le_trans HB14.out.size hb5.size
        have h4r : wr.heap.size ≤ w4.heap.size := HB14.out.size
        go_upto_region 10 with fail
        rw [← hw6, ← hq6]
        clear hw6 hq6 hb6 hb5 ho f6 fz HO5 HST HF5 HB14 HS4 HCV4 HB4
        cases hX2 : X.2
        · have HQ : Hid (pTo 6 K (k + 1) = pTo 6 K k) := by show _ = _; rw [HS.out, HPA.out, hX2]; simp
          clear HS HPA
          go_wp2
          go_roundw
          case rel => exact ⟨k + 1, es, by omega, by go_num, by rw [HQ.out, HNL.out]; exact HR.out.later HB6.out, blw_trans HW.out HB6.out⟩
          case measure => simp [intOf]; omega
        have HQ : Hid (pTo 6 K (k + 1) = pTo 6 K k ++ [X.1]) := by show _ = _; rw [HS.out, HPA.out, hX2]; simp
        clear HS HPA
        have tz := HS6.out.lt
        have t0 := HS6.out.get 0 _ rfl
        have t1 := HS6.out.get 1 _ rfl
        have pz := HP6.out.lt
        have p0 := HP6.out.get 0 _ rfl
        have p1 := HP6.out.get 1 _ rfl
        have hfz := HA6.out.frozen
        obtain ⟨w7, hw7⟩ : ∃ w7, w7 = ((w6.setCell ⟨q6, 0, none⟩ (.string s.nm)).setCell ⟨q6, 1, none⟩ (.int .i64 s.ver)).drew := ⟨_, rfl⟩
        have HB7 : Hid (Below wr.heap.size wr w7) := by show Below _ _ _; rw [hw7]; exact Below.drew ((HB6.out.setCell (p := ⟨q6, 0, none⟩) hq14 _).setCell (p := ⟨q6, 1, none⟩) hq14 _)
        have HO7 : Hid (w7.ownsRow w4.heap.size 114 2 (.slice va X.1.ends.length vc) X.1.ends.length (X.1.ends.flatMap EnC)) := by show World.ownsRow _ _ _ _ _ _ _; rw [hw7]; exact owns_later (owns_tsc (HA6.out.setCell 0 _) (owns_tsc HA6.out HO6.out)) (Below.drew (Below.refl _ _))
        have HP7 : Hid (LBox w7 q6 [.string s.nm, .int .i64 s.ver, .int .i64 X.1.create, .int .i64 X.1.want, .int .i64 X.1.cool, .bool X.1.scale, .slice va X.1.ends.length vc, .bool X.1.drop]) := by
          show LBox _ _ _
          rw [hw7]
          refine ⟨by have := HP6.out.lt; show q6 < ((w6.setCell ⟨q6, 0, none⟩ (.string s.nm)).setCell ⟨q6, 1, none⟩ (.int .i64 s.ver)).heap.size; rw [sc_size, sc_size]; exact this, fun j v hv => ?_⟩
          rw [Nat.zero_add]
          have e0 : ((w6.setCell ⟨q6, 0, none⟩ (.string s.nm)).setCell ⟨q6, 1, none⟩ (.int .i64 s.ver)).cell? ⟨q6, 0, none⟩ = some (.string s.nm) := (sc_ne _ _ _ _ _ _ (Or.inr (by decide))).trans (sc_eq HA6.out 0 (by decide) _)
          have e1 : ((w6.setCell ⟨q6, 0, none⟩ (.string s.nm)).setCell ⟨q6, 1, none⟩ (.int .i64 s.ver)).cell? ⟨q6, 1, none⟩ = some (.int .i64 s.ver) := sc_eq (HA6.out.setCell 0 _) 1 (by decide) _
          match j, hv with
          | 0, hv => injection hv with hv; subst hv; exact e0
          | 1, hv => injection hv with hv; subst hv; exact e1
          | 2, hv => injection hv with hv; subst hv; exact (sc_ne _ _ _ _ _ _ (Or.inr (by decide))).trans ((sc_ne _ _ _ _ _ _ (Or.inr (by decide))).trans (HP6.out.get 2 _ rfl))
          | 3, hv => injection hv with hv; subst hv; exact (sc_ne _ _ _ _ _ _ (Or.inr (by decide))).trans ((sc_ne _ _ _ _ _ _ (Or.inr (by decide))).trans (HP6.out.get 3 _ rfl))
          | 4, hv => injection hv with hv; subst hv; exact (sc_ne _ _ _ _ _ _ (Or.inr (by decide))).trans ((sc_ne _ _ _ _ _ _ (Or.inr (by decide))).trans (HP6.out.get 4 _ rfl))
          | 5, hv => injection hv with hv; subst hv; exact (sc_ne _ _ _ _ _ _ (Or.inr (by decide))).trans ((sc_ne _ _ _ _ _ _ (Or.inr (by decide))).trans (HP6.out.get 5 _ rfl))
          | 6, hv => injection hv with hv; subst hv; exact (sc_ne _ _ _ _ _ _ (Or.inr (by decide))).trans ((sc_ne _ _ _ _ _ _ (Or.inr (by decide))).trans (HP6.out.get 6 _ rfl))
          | 7, hv => injection hv with hv; subst hv; exact (sc_ne _ _ _ _ _ _ (Or.inr (by decide))).trans ((sc_ne _ _ _ _ _ _ (Or.inr (by decide))).trans (HP6.out.get 7 _ rfl))
          | n + 8, hv => simp at hv
        go_upto_region 11 with fail
        go_region
        rw [← hw7]
        clear hw7 tz t0 t1 pz p0 p1 hfz HA6 HP6 HO6 HS6 HB6
        have pz := HP7.out.lt
        have d0 := HP7.out.get 0 _ rfl
        have d1 := HP7.out.get 1 _ rfl
        have d2 := HP7.out.get 2 _ rfl
        have d3 := HP7.out.get 3 _ rfl
        have d4 := HP7.out.get 4 _ rfl
        have d5 := HP7.out.get 5 _ rfl
        have d6 := HP7.out.get 6 _ rfl
        have d7 := HP7.out.get 7 _ rfl
        have hs7 : wa.heap.size ≤ w7.heap.size := Nat.le_trans HW.out.size HB7.out.size
        go_wp2_with (at_builtin; refine wpList_append_own _ rfl _ _ 28 rfl wa.heap.size 47 i0 _ 8 88 Tryz.undAs hi hz0 hz1 hz2 rfl (by decide) (.slice a nn c) nn (acsC (pTo 6 K k) es) rfl ?g6a ⟨w7.heap.size, 0, none⟩ 1 1 [.string s.nm, .int .i64 s.ver, .int .i64 X.1.create, .int .i64 X.1.want, .int .i64 X.1.cool, .bool X.1.scale, .slice va X.1.ends.length vc, .bool X.1.drop] rfl ?g6b ?g6c ?g6d ?g6e ?g6f ?g6g ?_)
        case g6a => rw [HNL.out]; exact owns_later (HR.out.later HB7.out).row (blw_alloc (Below.refl _ _) _)
        try (case g6b => rfl)
        try (case g6c => exact World.news_of_block (World.alloc_heap_new _ _))
        case g6d => first | exact ⟨rfl, rfl, rfl, rfl, rfl, rfl, rfl, rfl⟩ | (intro u hu; simp at hu; rcases hu with rfl | rfl | rfl | rfl | rfl | rfl | rfl | rfl <;> rfl)
        case g6e => unfold maxLen; omega
        case g6f => omega
        case g6g => first | omega | (simp; omega)
        intro v' w8 hown hgrow _
        have eN : AcC X.1 (.slice va X.1.ends.length vc) = [.string s.nm, .int .i64 s.ver, .int .i64 X.1.create, .int .i64 X.1.want, .int .i64 X.1.cool, .bool X.1.scale, .slice va X.1.ends.length vc, .bool X.1.drop] := by simp [AcC, HSV.out.1, HSV.out.2]
        rw [← eN] at hown
        have hbt : Below wr.heap.size wr (w7.alloc (.cells #[.string s.nm, .int .i64 s.ver, .int .i64 X.1.create, .int .i64 X.1.want, .int .i64 X.1.cool, .bool X.1.scale, .slice va X.1.ends.length vc, .bool X.1.drop] 47)) := blw_trans HB7.out (blw_alloc (Below.refl _ _) _)
        rw [HNL.out] at hown
        have HN2 : Hid (AcsR w8 wa.heap.size v' (pTo 6 K (k + 1)) (es ++ [.slice va X.1.ends.length vc])) := by
          rw [HQ.out]
          exact HR.out.push hbt (owns_base (owns_later HO7.out (blw_alloc (Below.refl _ _) _)) h4r) HW.out.size hown (by rw [HNL.out] at hgrow; exact hgrow)
        have HB8 : Hid (Below wa.heap.size wa w8) := by
          refine Below.grown (blw_trans HW.out hbt) hgrow (blw_trans HW.out hbt).size (fun q hq => ?_)
          rw [HNL.out] at hq
          exact (World.ownsRow.lt HR.out.row q hq).1
        clear hown hgrow hbt eN
        go_wp2
        go_roundw
        case rel => exact ⟨k + 1, _, by omega, by go_num, HN2.out, HB8.out⟩
        case measure => simp [intOf]; omega
    · obtain rfl : k = K.svcs.length := by omega
      go_wp2
      go_ret
      exact ⟨⟨_, _, rfl, by rw [pOf, HV.out.1, HV.out.2]; exact HR.out.base HB.out.size⟩, blw_trans HB.out HW.out⟩

end Go.Proofs.YtamhfnlogldpaaaGreat
