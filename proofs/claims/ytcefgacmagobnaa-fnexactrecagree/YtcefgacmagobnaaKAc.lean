/-
  The places, and what is told of each: iterators.
-/
import Derived.RangeFuncNested
import Derived.RangeFuncLeaves
import Derived.RangeFuncBox
import Derived.Shelf.Abstract
import Derived.OwnWalkIn
import Derived.TacticsInMore
import Derived.LoopNIn
import Derived.LoopIn
import Derived.Test.YtcefgacmagobnaaKMi
namespace Go.Proofs.Ytcefgacmagobnaa
open Go.RowKit Go.Deep


theorem wpq {P : Program} {c : Code} {Q : Exit → Act → World → Prop} {a : Act} {w : World} (h : ∀ Qx : Exit → Act → World → Prop, (∀ a w, Q .normal a w → Qx .normal a w) → c.wp P Qx a w) : c.wp P Q a w := h Q fun _ _ x => x
theorem abides_blw {β : Type} {B : Nat} {J : β → World → Prop} (h : AbidesFrom B J) {s : β} {W W' : World} (hj : J s W) (hb : Below W.heap.size W W') : J s W' :=
  h s W W' none hj ⟨hb.os, hb.tape, hb.output, hb.size, fun i hi _ => hb.block i hi⟩ (fun _ e => by cases e)
/-- The last place of which anything can be told. -/
def lastTo (l : List Rr) : Nat → Nat
  | 0 => 0
  | k + 1 => max (lastTo l k) (max (l.getD k Rr.nil).safe.slots.length (l.getD k Rr.nil).disk.known.toNat)
theorem lastTo_le (l : List Rr) (hok : ∀ i, i < l.length → recOk (l.getD i Rr.nil) = true) : ∀ k, k ≤ l.length → lastTo l k ≤ 120
  | 0, _ => Nat.zero_le _
  | k + 1, h => by
    have h1 := lastTo_le l hok k (by omega)
    have h2 := rec_disk (hok k (by omega))
    obtain ⟨kn, e1, e2, e3⟩ := disk_facts h2.2
    obtain ⟨kn', e1', e2', e3'⟩ := disk_facts h2.1
    rw [lastTo, e1]
    have : ((kn : Int)).toNat = kn := Int.toNat_natCast kn
    omega
theorem range_pr (m M : Nat) (h : m ≤ M) : List.range m <+: List.range M := by
  obtain ⟨k, rfl⟩ : ∃ k, M = m + k := ⟨M - m, by omega⟩
  rw [List.range_add]
  exact List.prefix_append _ _

/-- A place that is handed out. -/
abbrev Pla := { x : Nat // x < 1000000 }

set_option maxRecDepth 8000 in
set_option maxHeartbeats 16000000 in
theorem places_stops (n : Nat) (hn1 : 1 ≤ n) (w : World) (l : List Rr) (a : Option Addr) (c bb : Nat) (hbx : LBox w bb [.slice a l.length c]) (h : RrsV w a l) (hok : ∀ i, i < l.length → recOk (l.getD i Rr.nil) = true) :
    SeqStopsK (α := Pla) Fence.wide n Try.prog 68 #[.pointer (some ⟨bb, 0, none⟩)] (fun q => #[.int .i64 ((q.1 : Int) + 1)]) (Below w.heap.size) (fun xs => xs.map (·.1) = List.range (lastTo l l.length)) (fun pre => pre.map (·.1) <+: List.range (lastTo l l.length)) (lastTo l l.length) w := by
  intro y J Jx W hW hJ hJx hY h0
  refine callsIn_wide.2 ?_
  show Calls Try.prog 68 #[.func (.yield y) #[] #[], .pointer (some ⟨bb, 0, none⟩)] W _
  have HH := hid (h.later hW)
  have HX := hid (hbx.later hW)
  have HOK := hid hok
  have HLE := hid (lastTo_le l hok)
  have HJ := hid (And.intro hJ hJx)
  have HY0 := hid hY
  have HJ0 := hid h0
  have hl0 := h.len
  clear h hbx hok hJ hJx hY h0 hW
  have xz := HX.out.lt
  have x0 := HX.out.get 0 _ rfl
  go_enter Try.func68, Try.ntmps68
  go_wp2
  clear xz x0
  go_loopw [3, 5, 9] (fun la _ i wr => ∃ q : Nat, q ≤ l.length ∧ i = .int .i64 q ∧ la = .int .i64 ((lastTo l q : Nat) : Int) ∧ J [] wr ∧ Below W.heap.size W wr) (fun _ _ i _ => l.length - (intOf i).toNat)
  case atStart => exact ⟨0, Nat.zero_le _, rfl, rfl, HJ0.out, Below.refl _ _⟩
  case round =>
    obtain ⟨q, hq, rfl, rfl, hj, hW⟩ := hrel
    have HB2 := hid hW
    have HJ2 := hid hj
    clear hj hW HJ0
    by_cases hlt : q < l.length
    · obtain ⟨b, off, ve, hab, hbl, hlen, hrg, hE, hwt⟩ := (HH.out.later HB2.out).spec q hlt
      subst hab
      obtain ⟨x, hx⟩ : ∃ x : Rr, x = l.getD q Rr.nil := ⟨_, rfl⟩
      rw [← hx] at hE hwt
      have HOX : Hid (recOk x = true) := by show _ = _; rw [hx]; exact HOK.out q hlt
      have HLA : Hid (lastTo l (q + 1) = max (lastTo l q) (max x.safe.slots.length x.disk.known.toNat)) := by show _ = _; rw [lastTo, ← hx]
      have HQ1 := hid (HLE.out q hq)
      have hm0 : (0 : Int) ≤ (q : Int) := by omega
      have hm3 : (q : Int) < (l.length : Int) := by omega
      have HL := hid hlen
      have HRW := hid hE
      have HWT := hid hwt
      obtain ⟨wb, hwb⟩ : ∃ wb, wb = (wr.alloc (.cells #[.int .i64 0, .int .i64 0, .bool false, .int .i64 0, .int .i64 0, .slice none 0 0, .int .i64 0, .int .i64 0, .slice none 0 0, .slice none 0 0, .slice none 0 0, .bool false, .bool false, .int .i64 0, .slice none 0 0, .slice none 0 0, .slice none 0 0, .int .i64 0] 52)).setCells wr.heap.size 0 ve := ⟨_, rfl⟩
      have hth := nv_there wr #[.int .i64 0, .int .i64 0, .bool false, .int .i64 0, .int .i64 0, .slice none 0 0, .int .i64 0, .int .i64 0, .slice none 0 0, .slice none 0 0, .slice none 0 0, .bool false, .bool false, .int .i64 0, .slice none 0 0, .slice none 0 0, .slice none 0 0, .int .i64 0] 52 ve (by rw [HL.out]; rfl)
      have hone := all_oneCell_toArray hE.one
      have hsz : (Try.prog.info? 52).map (·.size) = some ve.toArray.size := by rw [List.size_toArray, HL.out]; kernel_rfl
      have hby : Below wr.heap.size wr wb := by rw [hwb]; exact nv_below wr #[.int .i64 0, .int .i64 0, .bool false, .int .i64 0, .int .i64 0, .slice none 0 0, .int .i64 0, .int .i64 0, .slice none 0 0, .slice none 0 0, .slice none 0 0, .bool false, .bool false, .int .i64 0, .slice none 0 0, .slice none 0 0, .slice none 0 0, .int .i64 0] 52 ve
      have HY : Hid (LBox wb wr.heap.size ve) := by show LBox _ _ _; rw [hwb]; exact nv_box wr #[.int .i64 0, .int .i64 0, .bool false, .int .i64 0, .int .i64 0, .slice none 0 0, .int .i64 0, .int .i64 0, .slice none 0 0, .slice none 0 0, .slice none 0 0, .bool false, .bool false, .int .i64 0, .slice none 0 0, .slice none 0 0, .slice none 0 0, .int .i64 0] 52 ve (by rw [HL.out]; rfl)
      have HB3 := hid (blw_trans HB2.out hby)
      have HJ3 := hid (abides_blw HJ.out.1 HJ2.out hby)
      have HRW3 := hid (HRW.out.later hby)
      clear hx hE hwt hlen HB2 HJ2 hby HRW
      go_upto_region 4 with (first | refine wpList_load_mid rfl 52 _ rfl b (off + q * 18) rfl ve _ hrg Try.underlying52 rfl (by rw [HL.out]; kernel_rfl) ?_ | refine wpList_store_mid rfl 52 _ _ rfl wr.heap.size 0 ve.toArray rfl rfl hth hsz hone ?_)
      first | rw [← hwb] | (simp only [List.toList_toArray]; rw [← hwb])
      clear hwb hth hone hsz hrg hbl
      obtain ⟨b0, b1, b2, b3, b4, b5, b6, d0, d1, d2, d3, d4, d5, d6, hve, hv, z0, z1, z3⟩ := vRr HRW3.out HWT.out
      obtain ⟨kn, hkn, hkl, _⟩ := disk_facts (rec_disk HOX.out).2
      have yz := HY.out.lt
      have y5 := HY.out.get 5 (.slice b0 x.safe.slots.length d0) (by rw [hve]; rfl)
      have y7 := HY.out.get 7 (.int .i64 (kn : Int)) (by rw [hve, ← hkn]; rfl)
      obtain ⟨la, hla⟩ : ∃ la, la = lastTo l q := ⟨_, rfl⟩
      obtain ⟨sl, hsl⟩ : ∃ sl, sl = x.safe.slots.length := ⟨_, rfl⟩
      rw [hkn, Int.toNat_natCast, ← hla, ← hsl] at HLA
      rw [← hsl] at y5
      rw [← hla]
      clear hve hv z0 z1 z3 hkn hkl hla hsl
      obtain ⟨M, hM⟩ : ∃ M, M = max la (max sl kn) := ⟨_, rfl⟩
      have hmx : ∀ X : World, (Builtin.max_ #[3, 3, 3] 3 #[.int .i64 (la : Int), .int .i64 (sl : Int), .int .i64 (kn : Int)]).run Try.prog X = .ok (.int .i64 (M : Int)) X := fun X => by
        have e : (if ((kn : Int)) > (if (sl : Int) > (la : Int) then (sl : Int) else (la : Int)) then (kn : Int) else (if (sl : Int) > (la : Int) then (sl : Int) else (la : Int))) = (M : Int) := by
          rw [hM]
          split <;> split <;> omega
        rw [← e]
        simp [Builtin.max_, Builtin.max2, List.foldlM]
      have HM : Hid (lastTo l (q + 1) = M) := by show _ = _; rw [HLA.out, hM]
      clear hM HLA
      go_wp2
      go_roundw
      case rel => exact ⟨q + 1, by omega, by go_num, by rw [HM.out], HJ3.out, HB3.out⟩
      case measure => simp [intOf]; omega
    obtain rfl : q = l.length := by omega
    obtain ⟨M, hM⟩ : ∃ M, M = lastTo l l.length := ⟨_, rfl⟩
    have HLM := hid (HLE.out l.length (Nat.le_refl _))
    rw [← hM] at HY0 HLM ⊢
    have HMM := hid hM
    clear hM HLE HH HX HOK
    have hMM : M ≤ 120 := HLM.out
    go_wp2
    go_loopw [6] (fun i wr => ∃ (m : Nat) (pre : List Pla), m ≤ M ∧ i = .int .i64 ((m : Int) + 1) ∧ pre.map (·.1) = List.range m ∧ J pre wr) (fun i _ => M + 1 - (intOf i).toNat)
    case atStart => exact ⟨0, [], Nat.zero_le _, rfl, rfl, HJ2.out⟩
    case round =>
      obtain ⟨m, pre, hm, rfl, hpm, hj⟩ := hrel
      have HPM := hid hpm
      have hpl : pre.length = m := by have := congrArg List.length hpm; simpa using this
      clear hpm
      by_cases hlt : m < M
      · have hle : (m : Int) + 1 ≤ (M : Int) := by omega
        have hmb : m < 1000000 := Nat.lt_of_lt_of_le hlt (Nat.le_trans hMM (by decide))
        obtain ⟨fn, tmps, assign, body, hy, hR⟩ := HY0.out pre ⟨m, hmb⟩ _ hj (by rw [hpl]; exact hlt)
        try dsimp only at hy
        have HR := hid hR
        clear hR hj hpl
        refine (wpIn_wide (n := n)).1 ?_
        gi_wp2
        refine HR.out.mono ?_
        rintro e W3 (⟨rfl, hJ3, hk3⟩ | ⟨rfl, hJx3⟩)
        · have HJ4 := hid hJ3
          clear hJ3 hk3 hy
          gi_wp2
          go_roundw
          case rel => exact ⟨m + 1, pre ++ [⟨m, hmb⟩], by omega, by go_num, by show (pre ++ [(⟨m, hmb⟩ : Pla)]).map (fun z : Pla => z.1) = _; rw [List.map_append, HPM.out, List.range_succ]; rfl, HJ4.out⟩
          case measure => simp [intOf]; omega
        · have HJ4 := hid hJx3
          clear hJx3 hy
          gi_wp2
          refine bodyPost_ret (results_none rfl _ _ _) rfl ?_
          exact ⟨⟨_, rfl⟩, .inr ⟨pre ++ [⟨m, hmb⟩], by show (pre ++ [(⟨m, hmb⟩ : Pla)]).map (fun z : Pla => z.1) <+: _; rw [← HMM.out, List.map_append, HPM.out]; exact (show List.range m ++ [m] <+: _ by rw [← List.range_succ]; exact range_pr _ _ (by omega)), HJ4.out⟩⟩
      · obtain rfl : m = M := by omega
        have hle : ¬ ((m : Int) + 1 ≤ (m : Int)) := by omega
        have HJ4 := hid hj
        clear hj hpl
        go_wp2
        go_end0
        exact ⟨⟨_, rfl⟩, .inl ⟨pre, by show pre.map (·.1) = _; rw [HPM.out, HMM.out], HJ4.out⟩⟩

theorem placesI (a : Option Addr) (n c : Nat) (w : World) :
    Calls Try.prog 37 #[.slice a n c] w fun e w' => e = .returned (.func (.func 68) #[] #[.pointer (some ⟨w.heap.size, 0, none⟩)]) ∧ w' = w.alloc (.cells #[.slice a n c] 29) := by
  go_enter Try.func37, Try.ntmps37
  go_wp2
  go_ret
  exact ⟨rfl, rfl⟩
theorem tellingsI (a : Option Addr) (n c : Nat) (ix : Int) (w : World) :
    Calls Try.prog 39 #[.slice a n c, .int .i64 ix] w fun e w' => e = .returned (.func (.func 70) #[] #[.pointer (some ⟨w.heap.size, 0, none⟩), .pointer (some ⟨w.heap.size + 1, 0, none⟩)]) ∧ w' = (w.alloc (.cells #[.slice a n c] 29)).alloc (.cells #[.int .i64 ix] 3) := by
  go_enter Try.func39, Try.ntmps39
  go_wp2
  go_ret
  exact ⟨rfl, rfl⟩

/-- What recorders know of a place: the first k. -/
def knows (l : List Rr) (m i : Nat) : Bool := decide ((m : Int) + 1 ≤ (l.getD i Rr.nil).disk.known)
def knTo (l : List Rr) (m : Nat) : Nat → List ByteArray
  | 0 => []
  | k + 1 => knTo l m k ++ (if knows l m k then [((l.getD k Rr.nil).disk.slots.getD m Rs.none).txt] else [])
def told (l : List Rr) (m : Nat) : List ByteArray := if (major l ((m : Int) + 1)).2 then [(major l ((m : Int) + 1)).1] else []
def tells (l : List Rr) (m : Nat) : List ByteArray := told l m ++ knTo l m l.length
theorem knTo_pre (l : List Rr) (m : Nat) {j : Nat} : ∀ {k : Nat}, j ≤ k → knTo l m j <+: knTo l m k
  | 0, h => by rw [Nat.le_zero.1 h]; exact List.prefix_refl _
  | k + 1, h => by
    by_cases e : j = k + 1
    · rw [e]; exact List.prefix_refl _
    · exact (knTo_pre l m (j := j) (k := k) (by omega)).trans (by rw [knTo]; exact List.prefix_append _ _)
theorem tells_pre (l : List Rr) (m j : Nat) (h : j ≤ l.length) : told l m ++ knTo l m j <+: tells l m := by
  unfold tells
  obtain ⟨t, ht⟩ := knTo_pre l m h
  exact ⟨t, by rw [List.append_assoc, ht]⟩
theorem knTo_len (l : List Rr) (m : Nat) : ∀ k, (knTo l m k).length ≤ k
  | 0 => Nat.le_refl _
  | k + 1 => by rw [knTo, List.length_append]; have := knTo_len l m k; split <;> simp <;> omega

set_option maxRecDepth 8000 in
set_option maxHeartbeats 16000000 in
theorem tellings_stops (n : Nat) (hn1 : 1 ≤ n) (w : World) (l : List Rr) (m : Nat) (a : Option Addr) (c bb bi : Nat) (hbx : LBox w bb [.slice a l.length c]) (hbi : LBox w bi [.int .i64 ((m : Int) + 1)]) (h : RrsV w a l) (hok : ∀ i, i < l.length → recOk (l.getD i Rr.nil) = true) (hm : m < 1000000) :
    SeqStopsK (α := ByteArray) Fence.wide n Try.prog 70 #[.pointer (some ⟨bb, 0, none⟩), .pointer (some ⟨bi, 0, none⟩)] (fun t => #[.string t]) (Below w.heap.size) (fun xs => xs = tells l m) (fun pre => pre <+: tells l m) (l.length + 1) w := by
  intro y J Jx W hW hJ hJx hY h0
  refine callsIn_wide.2 ?_
  show Calls Try.prog 70 #[.func (.yield y) #[] #[], .pointer (some ⟨bb, 0, none⟩), .pointer (some ⟨bi, 0, none⟩)] W _
  have HH := hid h
  have HX := hid hbx
  have HI := hid hbi
  have HOK := hid hok
  have HJ := hid (And.intro hJ hJx)
  have HY0 := hid hY
  have HJ0 := hid h0
  have HW := hid hW
  have hl0 := h.len
  have HMJ := hid (majorOfI l m a c W (h.later hW) hok hm)
  clear h hbx hbi hok hJ hJx hY h0 hW
  have xz := (HX.out.later HW.out).lt
  have x0 := (HX.out.later HW.out).get 0 _ rfl
  have iz := (HI.out.later HW.out).lt
  have i0 := (HI.out.later HW.out).get 0 _ rfl
  have HTD : Hid (told l m = if (major l ((m : Int) + 1)).2 then [(major l ((m : Int) + 1)).1] else []) := rfl
  obtain ⟨m1, hm1⟩ : ∃ m1, m1 = (major l ((m : Int) + 1)).1 := ⟨_, rfl⟩
  obtain ⟨m2, hm2⟩ : ∃ m2, m2 = (major l ((m : Int) + 1)).2 := ⟨_, rfl⟩
  rw [← hm1, ← hm2] at HTD HMJ
  clear hm1 hm2
  go_enter Try.func70, Try.ntmps70
  go_wp2_with fail
  refine HMJ.out.mono ?_
  rintro e w1 ⟨rfl, hb⟩
  have HW1 := hid (blw_trans HW.out hb)
  have HJ1 := hid (abides_blw HJ.out.1 HJ0.out hb)
  clear hb HMJ xz x0 iz i0 HJ0 HW
  cases m2
  · have HTE : Hid (told l m = []) := by show _ = _; rw [HTD.out]; rfl
    clear HTD
    have xz := (HX.out.later HW1.out).lt
    have x0 := (HX.out.later HW1.out).get 0 _ rfl
    go_wp2
    clear xz x0
    go_loopw [7, 23] (fun _ i wr => ∃ q : Nat, q ≤ l.length ∧ i = .int .i64 q ∧ J (([] : List ByteArray) ++ knTo l m q) wr ∧ Below w.heap.size w wr) (fun _ i _ => l.length - (intOf i).toNat)
    case atStart => exact ⟨0, Nat.zero_le _, rfl, by rw [knTo, List.append_nil]; exact HJ1.out, HW1.out⟩
    case round =>
      obtain ⟨q, hq, rfl, hj, hWr⟩ := hrel
      have HB2 := hid hWr
      have HJ2 := hid hj
      clear hj hWr HJ1 HW1
      by_cases hlt : q < l.length
      · obtain ⟨b, off, ve, hab, hbl, hlen, hrg, hE, hwt⟩ := (HH.out.later HB2.out).spec q hlt
        subst hab
        obtain ⟨x, hx⟩ : ∃ x : Rr, x = l.getD q Rr.nil := ⟨_, rfl⟩
        rw [← hx] at hE hwt
        have HOX : Hid (recOk x = true) := by show _ = _; rw [hx]; exact HOK.out q hlt
        have HKN : Hid (knTo l m (q + 1) = knTo l m q ++ (if decide ((m : Int) + 1 ≤ x.disk.known) then [(x.disk.slots.getD m Rs.none).txt] else [])) := by show _ = _; rw [knTo, knows, ← hx]
        have hm0 : (0 : Int) ≤ (q : Int) := by omega
        have hm3 : (q : Int) < (l.length : Int) := by omega
        have HL := hid hlen
        have HRW := hid hE
        have HWT := hid hwt
        obtain ⟨wb, hwb⟩ : ∃ wb, wb = (wr.alloc (.cells #[.int .i64 0, .int .i64 0, .bool false, .int .i64 0, .int .i64 0, .slice none 0 0, .int .i64 0, .int .i64 0, .slice none 0 0, .slice none 0 0, .slice none 0 0, .bool false, .bool false, .int .i64 0, .slice none 0 0, .slice none 0 0, .slice none 0 0, .int .i64 0] 52)).setCells wr.heap.size 0 ve := ⟨_, rfl⟩
        have hth := nv_there wr #[.int .i64 0, .int .i64 0, .bool false, .int .i64 0, .int .i64 0, .slice none 0 0, .int .i64 0, .int .i64 0, .slice none 0 0, .slice none 0 0, .slice none 0 0, .bool false, .bool false, .int .i64 0, .slice none 0 0, .slice none 0 0, .slice none 0 0, .int .i64 0] 52 ve (by rw [HL.out]; rfl)
        have hone := all_oneCell_toArray hE.one
        have hsz : (Try.prog.info? 52).map (·.size) = some ve.toArray.size := by rw [List.size_toArray, HL.out]; kernel_rfl
        have hby : Below wr.heap.size wr wb := by rw [hwb]; exact nv_below wr #[.int .i64 0, .int .i64 0, .bool false, .int .i64 0, .int .i64 0, .slice none 0 0, .int .i64 0, .int .i64 0, .slice none 0 0, .slice none 0 0, .slice none 0 0, .bool false, .bool false, .int .i64 0, .slice none 0 0, .slice none 0 0, .slice none 0 0, .int .i64 0] 52 ve
        have HY : Hid (LBox wb wr.heap.size ve) := by show LBox _ _ _; rw [hwb]; exact nv_box wr #[.int .i64 0, .int .i64 0, .bool false, .int .i64 0, .int .i64 0, .slice none 0 0, .int .i64 0, .int .i64 0, .slice none 0 0, .slice none 0 0, .slice none 0 0, .bool false, .bool false, .int .i64 0, .slice none 0 0, .slice none 0 0, .slice none 0 0, .int .i64 0] 52 ve (by rw [HL.out]; rfl)
        have HB3 := hid (blw_trans HB2.out hby)
        have HJ3 := hid (abides_blw HJ.out.1 HJ2.out hby)
        have HRW3 := hid (HRW.out.later hby)
        clear hx hE hwt hlen HB2 HJ2 hby HRW
        go_upto_region 5 with (first | refine wpList_load_mid rfl 52 _ rfl b (off + q * 18) rfl ve _ hrg Try.underlying52 rfl (by rw [HL.out]; kernel_rfl) ?_ | refine wpList_store_mid rfl 52 _ _ rfl wr.heap.size 0 ve.toArray rfl rfl hth hsz hone ?_)
        first | rw [← hwb] | (simp only [List.toList_toArray]; rw [← hwb])
        clear hwb hth hone hsz hrg hbl
        obtain ⟨b0, b1, b2, b3, b4, b5, b6, d0, d1, d2, d3, d4, d5, d6, hve, hv, z0, z1, z3⟩ := vRr HRW3.out HWT.out
        obtain ⟨kn, hkn, hkl, _⟩ := disk_facts (rec_disk HOX.out).2
        rw [hkn] at HKN
        have HV1 := hid hv.l1
        have yz := HY.out.lt
        have y7 := HY.out.get 7 (.int .i64 (kn : Int)) (by rw [hve, ← hkn]; rfl)
        have y8 := HY.out.get 8 (.slice b1 x.disk.slots.length d1) (by rw [hve]; rfl)
        have iz := (HI.out.later HB3.out).lt
        have i0 := (HI.out.later HB3.out).get 0 _ rfl
        clear hve hv z0 z1 z3 hkn
        by_cases hle : (m : Int) + 1 ≤ (kn : Int)
        · have hmk : m < x.disk.slots.length := by omega
          obtain ⟨bt, ot, hat, hbt, t0, t1, _⟩ := HV1.out.at_ m hmk
          subst hat
          obtain ⟨t, ht⟩ : ∃ t : ByteArray, t = (x.disk.slots.getD m Rs.none).txt := ⟨_, rfl⟩
          rw [← ht] at t1 HKN
          have HKE : Hid (knTo l m (q + 1) = knTo l m q ++ [t]) := by show _ = _; rw [HKN.out, decide_eq_true hle]; rfl
          have hm6 : (0 : Int) ≤ (m : Int) := by omega
          have hm7 : (m : Int) < (x.disk.slots.length : Int) := by omega
          have hm8 : ((m : Int) + 1 - 1) = (m : Int) := by omega
          obtain ⟨fn, tmps, assign, body, hy, hR⟩ := HY0.out (([] : List ByteArray) ++ knTo l m q) t wb HJ3.out (by have := knTo_len l m q; simp; omega)
          try dsimp only at hy
          have HR := hid hR
          clear hR ht HKN HV1
          refine wpq ?_
          intro Qx hQx
          have HQx := hid hQx
          clear hQx
          refine (wpIn_wide (n := n)).1 ?_
          gi_wp2
          refine HR.out.mono ?_
          rintro e W3 (⟨rfl, hJ3', hk3⟩ | ⟨rfl, hJx3⟩)
          · have HW4 := hid (HB3.out.trans hk3)
            have HJ4 : Hid (J (([] : List ByteArray) ++ knTo l m (q + 1)) W3) := by show J _ _; rw [HKE.out, ← List.append_assoc]; exact hJ3'
            clear hJ3' hk3 hy t0 t1 hbt yz y7 y8 iz i0
            gi_wp2
            refine HQx.out _ _ ?_
            go_wp2
            go_roundw
            case rel => exact ⟨q + 1, by omega, by go_num, HJ4.out, HW4.out⟩
            case measure => simp [intOf]; omega
          · have HJ4 : Hid (Jx (([] : List ByteArray) ++ knTo l m (q + 1)) W3) := by show Jx _ _; rw [HKE.out, ← List.append_assoc]; exact hJx3
            clear hJx3 hy t0 t1 hbt yz y7 y8 iz i0
            gi_wp2
            refine HQx.out _ _ ?_
            go_wp2
            refine bodyPost_ret (results_none rfl _ _ _) rfl ?_
            exact ⟨⟨_, rfl⟩, .inr ⟨_, by have := tells_pre l m (q + 1) (by omega); rw [HTE.out] at this; exact this, HJ4.out⟩⟩
        · have HJ4 : Hid (J (([] : List ByteArray) ++ knTo l m (q + 1)) wb) := by show J _ _; rw [HKN.out, decide_eq_false hle]; simpa using HJ3.out
          clear HV1 HKN
          go_wp2
          go_roundw
          case rel => exact ⟨q + 1, by omega, by go_num, HJ4.out, HB3.out⟩
          case measure => simp [intOf]; omega
      · obtain rfl : q = l.length := by omega
        go_wp2
        go_end0
        exact ⟨⟨_, rfl⟩, .inl ⟨_, by unfold tells; rw [HTE.out], HJ2.out⟩⟩
  · have HTE : Hid (told l m = [m1]) := by show _ = _; rw [HTD.out]; rfl
    clear HTD
    obtain ⟨fn, tmps, assign, body, hy, hR⟩ := HY0.out [] m1 w1 HJ1.out (by simp)
    try dsimp only at hy
    have HR := hid hR
    clear hR HJ1
    go_upto_region 1 with fail
    refine wpq ?_
    intro Qx hQx
    have HQx := hid hQx
    clear hQx
    refine (wpIn_wide (n := n)).1 ?_
    gi_wp2
    refine HR.out.mono ?_
    rintro e W3 (⟨rfl, hJ3, hk3⟩ | ⟨rfl, hJx3⟩)
    · have HW2 := hid (HW1.out.trans hk3)
      have HJ4 := hid hJ3
      clear hJ3 hk3 hy HW1
      have HJ1 : Hid (J [m1] W3) := HJ4.out
      have HW1 := HW2
      clear HJ4 HW2
      gi_wp2
      refine HQx.out _ _ ?_
      have xz := (HX.out.later HW1.out).lt
      have x0 := (HX.out.later HW1.out).get 0 _ rfl
      go_wp2
      clear xz x0
      go_loopw [7, 23] (fun _ i wr => ∃ q : Nat, q ≤ l.length ∧ i = .int .i64 q ∧ J ([m1] ++ knTo l m q) wr ∧ Below w.heap.size w wr) (fun _ i _ => l.length - (intOf i).toNat)
      case atStart => exact ⟨0, Nat.zero_le _, rfl, by rw [knTo, List.append_nil]; exact HJ1.out, HW1.out⟩
      case round =>
        obtain ⟨q, hq, rfl, hj, hWr⟩ := hrel
        have HB2 := hid hWr
        have HJ2 := hid hj
        clear hj hWr HJ1 HW1
        by_cases hlt : q < l.length
        · obtain ⟨b, off, ve, hab, hbl, hlen, hrg, hE, hwt⟩ := (HH.out.later HB2.out).spec q hlt
          subst hab
          obtain ⟨x, hx⟩ : ∃ x : Rr, x = l.getD q Rr.nil := ⟨_, rfl⟩
          rw [← hx] at hE hwt
          have HOX : Hid (recOk x = true) := by show _ = _; rw [hx]; exact HOK.out q hlt
          have HKN : Hid (knTo l m (q + 1) = knTo l m q ++ (if decide ((m : Int) + 1 ≤ x.disk.known) then [(x.disk.slots.getD m Rs.none).txt] else [])) := by show _ = _; rw [knTo, knows, ← hx]
          have hm0 : (0 : Int) ≤ (q : Int) := by omega
          have hm3 : (q : Int) < (l.length : Int) := by omega
          have HL := hid hlen
          have HRW := hid hE
          have HWT := hid hwt
          obtain ⟨wb, hwb⟩ : ∃ wb, wb = (wr.alloc (.cells #[.int .i64 0, .int .i64 0, .bool false, .int .i64 0, .int .i64 0, .slice none 0 0, .int .i64 0, .int .i64 0, .slice none 0 0, .slice none 0 0, .slice none 0 0, .bool false, .bool false, .int .i64 0, .slice none 0 0, .slice none 0 0, .slice none 0 0, .int .i64 0] 52)).setCells wr.heap.size 0 ve := ⟨_, rfl⟩
          have hth := nv_there wr #[.int .i64 0, .int .i64 0, .bool false, .int .i64 0, .int .i64 0, .slice none 0 0, .int .i64 0, .int .i64 0, .slice none 0 0, .slice none 0 0, .slice none 0 0, .bool false, .bool false, .int .i64 0, .slice none 0 0, .slice none 0 0, .slice none 0 0, .int .i64 0] 52 ve (by rw [HL.out]; rfl)
          have hone := all_oneCell_toArray hE.one
          have hsz : (Try.prog.info? 52).map (·.size) = some ve.toArray.size := by rw [List.size_toArray, HL.out]; kernel_rfl
          have hby : Below wr.heap.size wr wb := by rw [hwb]; exact nv_below wr #[.int .i64 0, .int .i64 0, .bool false, .int .i64 0, .int .i64 0, .slice none 0 0, .int .i64 0, .int .i64 0, .slice none 0 0, .slice none 0 0, .slice none 0 0, .bool false, .bool false, .int .i64 0, .slice none 0 0, .slice none 0 0, .slice none 0 0, .int .i64 0] 52 ve
          have HY : Hid (LBox wb wr.heap.size ve) := by show LBox _ _ _; rw [hwb]; exact nv_box wr #[.int .i64 0, .int .i64 0, .bool false, .int .i64 0, .int .i64 0, .slice none 0 0, .int .i64 0, .int .i64 0, .slice none 0 0, .slice none 0 0, .slice none 0 0, .bool false, .bool false, .int .i64 0, .slice none 0 0, .slice none 0 0, .slice none 0 0, .int .i64 0] 52 ve (by rw [HL.out]; rfl)
          have HB3 := hid (blw_trans HB2.out hby)
          have HJ3 := hid (abides_blw HJ.out.1 HJ2.out hby)
          have HRW3 := hid (HRW.out.later hby)
          clear hx hE hwt hlen HB2 HJ2 hby HRW
          go_upto_region 5 with (first | refine wpList_load_mid rfl 52 _ rfl b (off + q * 18) rfl ve _ hrg Try.underlying52 rfl (by rw [HL.out]; kernel_rfl) ?_ | refine wpList_store_mid rfl 52 _ _ rfl wr.heap.size 0 ve.toArray rfl rfl hth hsz hone ?_)
          first | rw [← hwb] | (simp only [List.toList_toArray]; rw [← hwb])
          clear hwb hth hone hsz hrg hbl
          obtain ⟨b0, b1, b2, b3, b4, b5, b6, d0, d1, d2, d3, d4, d5, d6, hve, hv, z0, z1, z3⟩ := vRr HRW3.out HWT.out
          obtain ⟨kn, hkn, hkl, _⟩ := disk_facts (rec_disk HOX.out).2
          rw [hkn] at HKN
          have HV1 := hid hv.l1
          have yz := HY.out.lt
          have y7 := HY.out.get 7 (.int .i64 (kn : Int)) (by rw [hve, ← hkn]; rfl)
          have y8 := HY.out.get 8 (.slice b1 x.disk.slots.length d1) (by rw [hve]; rfl)
          have iz := (HI.out.later HB3.out).lt
          have i0 := (HI.out.later HB3.out).get 0 _ rfl
          clear hve hv z0 z1 z3 hkn
          by_cases hle : (m : Int) + 1 ≤ (kn : Int)
          · have hmk : m < x.disk.slots.length := by omega
            obtain ⟨bt, ot, hat, hbt, t0, t1, _⟩ := HV1.out.at_ m hmk
            subst hat
            obtain ⟨t, ht⟩ : ∃ t : ByteArray, t = (x.disk.slots.getD m Rs.none).txt := ⟨_, rfl⟩
            rw [← ht] at t1 HKN
            have HKE : Hid (knTo l m (q + 1) = knTo l m q ++ [t]) := by show _ = _; rw [HKN.out, decide_eq_true hle]; rfl
            have hm6 : (0 : Int) ≤ (m : Int) := by omega
            have hm7 : (m : Int) < (x.disk.slots.length : Int) := by omega
            have hm8 : ((m : Int) + 1 - 1) = (m : Int) := by omega
            obtain ⟨fn, tmps, assign, body, hy, hR⟩ := HY0.out ([m1] ++ knTo l m q) t wb HJ3.out (by have := knTo_len l m q; simp; omega)
            try dsimp only at hy
            have HR := hid hR
            clear hR ht HKN HV1
            refine wpq ?_
            intro Qx hQx
            have HQx := hid hQx
            clear hQx
            refine (wpIn_wide (n := n)).1 ?_
            gi_wp2
            refine HR.out.mono ?_
            rintro e W3 (⟨rfl, hJ3', hk3⟩ | ⟨rfl, hJx3⟩)
            · have HW4 := hid (HB3.out.trans hk3)
              have HJ4 : Hid (J ([m1] ++ knTo l m (q + 1)) W3) := by show J _ _; rw [HKE.out, ← List.append_assoc]; exact hJ3'
              clear hJ3' hk3 hy t0 t1 hbt yz y7 y8 iz i0
              gi_wp2
              refine HQx.out _ _ ?_
              go_wp2
              go_roundw
              case rel => exact ⟨q + 1, by omega, by go_num, HJ4.out, HW4.out⟩
              case measure => simp [intOf]; omega
            · have HJ4 : Hid (Jx ([m1] ++ knTo l m (q + 1)) W3) := by show Jx _ _; rw [HKE.out, ← List.append_assoc]; exact hJx3
              clear hJx3 hy t0 t1 hbt yz y7 y8 iz i0
              gi_wp2
              refine HQx.out _ _ ?_
              go_wp2
              refine bodyPost_ret (results_none rfl _ _ _) rfl ?_
              exact ⟨⟨_, rfl⟩, .inr ⟨_, by have := tells_pre l m (q + 1) (by omega); rw [HTE.out] at this; exact this, HJ4.out⟩⟩
          · have HJ4 : Hid (J ([m1] ++ knTo l m (q + 1)) wb) := by show J _ _; rw [HKN.out, decide_eq_false hle]; simpa using HJ3.out
            clear HV1 HKN
            go_wp2
            go_roundw
            case rel => exact ⟨q + 1, by omega, by go_num, HJ4.out, HB3.out⟩
            case measure => simp [intOf]; omega
        · obtain rfl : q = l.length := by omega
          go_wp2
          go_end0
          exact ⟨⟨_, rfl⟩, .inl ⟨_, by unfold tells; rw [HTE.out], HJ2.out⟩⟩
    · have HJ4 := hid hJx3
      clear hJx3 hy
      gi_wp2
      refine HQx.out _ _ ?_
      go_wp2
      refine bodyPost_ret (results_none rfl _ _ _) rfl ?_
      exact ⟨⟨_, rfl⟩, .inr ⟨[m1], by have := tells_pre l m 0 (Nat.zero_le _); rw [HTE.out] at this; exact this, HJ4.out⟩⟩
end Go.Proofs.Ytcefgacmagobnaa
