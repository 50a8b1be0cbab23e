/-
  The sea: what happens to a valid book leaves a valid book (ticks, failures, sinking).
-/
import Derived.Test.YtclagbakddkjcaaGreatStT17
namespace Go.Proofs.YtclagbakddkjcaaGreat
open Go.RowKit Go.Deep

def stay (l : List Cp) : List Cp := l.filter fun c => !c.ending
/-- What starts is ready, the first i. -/
def rdy (v : Int) (M : List Cp) (i : Nat) : List Cp := (M.take i).map (tick1 v) ++ M.drop i
theorem rdy_len (v : Int) (M : List Cp) (i : Nat) : (rdy v M i).length = M.length := by
  unfold rdy; rw [List.length_append, List.length_map, List.length_take, List.length_drop]; omega
theorem rdy_at (v : Int) (M : List Cp) {i : Nat} (hi : i < M.length) : (rdy v M i).getD i Cp.none = M.getD i Cp.none := by
  unfold rdy
  rw [List.getD_eq_getElem?_getD, List.getD_eq_getElem?_getD, List.getElem?_append_right (by simp; omega)]
  simp only [List.length_map, List.length_take, List.getElem?_drop]
  congr 2
  omega
theorem rdy_succ (v : Int) (M : List Cp) {i : Nat} (hi : i < M.length) : rdy v M (i + 1) = (rdy v M i).set i (tick1 v (M.getD i Cp.none)) := by
  have hl : ((M.take i).map (tick1 v)).length = i := by simp; omega
  have e : M.drop i = M.getD i Cp.none :: M.drop (i + 1) := by
    rw [List.drop_eq_getElem_cons hi]; simp [hi]
  unfold rdy
  rw [take_snoc Cp.none hi, List.map_append, e, List.set_append_right _ _ (by omega), hl, Nat.sub_self]
  simp
theorem rdy_all (v : Int) (M : List Cp) : rdy v M M.length = M.map (tick1 v) := by
  unfold rdy; simp
theorem rdy_left (v : Int) (l : List Cp) : rdy v (stay l) (stay l).length = leftTo l v l.length := by
  rw [rdy_all]; unfold leftTo stay; rw [List.take_length]
theorem tick1_on {v : Int} {x : Cp} (h : x.state = 2) : tick1 v x = turnC x v 3 := by unfold tick1 turnC; rw [if_pos h]
theorem tick1_off {v : Int} {x : Cp} (h : x.state ≠ 2) : tick1 v x = x := by unfold tick1; rw [if_neg h]
set_option maxRecDepth 8000 in
set_option maxHeartbeats 16000000 in
theorem passI {lo px : Nat} {t : TypeId} {ex : List Value} {R : World} {now : Int} {sv : List Sv} {cp : List Cp} {bt : List Bt} {p0 p1 p2 : Option Addr} {q0 q1 q2 : Nat} (K : SBk) (hKs : K.svcs = sv) (hKc : K.cps = cp) (hKb : K.bts = bt) (h : XG lo px t ex R now sv cp bt p0 p1 p2 sv.length cp.length bt.length q0 q1 q2) (hlo : lo ≤ R.heap.size) (hpl : lo ≤ px)
    (hnm : ∀ i, i < bt.length → (bt.getD i Bt.none).nm.toList ≠ []) (hwt : ∀ i, i < cp.length → (cp.getD i Cp.none).state = 1 → (cp.getD i Cp.none).berth.toList = []) :
    Calls Tryz.prog 56 #[.pointer (some ⟨px, 0, none⟩)] R fun e W' => e = .returned (.tuple #[]) ∧ (∃ p1' n1' q1', XG lo px t ex W' now sv (tickOf K now) bt p0 p1' p2 sv.length n1' bt.length q0 q1' q2) ∧ Below lo R W' := by
  have HXG := hid h
  have HLO := hid hlo
  have HPL := hid hpl
  have HNM := hid hnm
  have HWT := hid hwt
  have HKS := hid (And.intro hKs (And.intro hKc hKb))
  have X2 := h.cell 2 _ rfl
  have HXL := lt_heap h.bx
  have HPX := h.bx
  have HNE : 81 ≠ t := h.nr.2.1
  have HPG5 : Hid (∀ g, p1 = some ⟨g, 0, none⟩ → px ≠ g) := fun g e => by
    obtain ⟨cur, hc⟩ := (owns_typ h.o1 g e).2
    exact h.ne hc h.nr.2.1
  clear h hlo hpl hnm hwt hKs hKc hKb
  go_enter Tryz.func56, Tryz.ntmps56
  go_wp2_with fail
  refine (delFnC 80 #[] (fun args W => by kernel_rfl) (fun c => c.ending) cp lo p1 q1 R HXG.out.o1 HXG.out.z1 HXG.out.m1 (fun x W9 _ => del80 x W9)).mono ?_
  rintro e W0 ⟨⟨rfl, ho⟩, hb0⟩
  have hp0 := (hb0.block px HXL HPG5.out).trans HPX
  have x2 : W0.cell? ⟨px, 2, none⟩ = some (.slice p1 cp.length q1) := by simp [World.cell?, hp0]
  have fz : ∀ j, W0.frozen? ⟨px, j, none⟩ = false := fun j => by simp [World.frozen?, hp0]
  have xz0 := lt_heap hp0
  obtain ⟨W1, hW1⟩ : ∃ W1, W1 = W0.setCell ⟨px, 2, none⟩ (.slice p1 (stay cp).length q1) := ⟨_, rfl⟩
  have hY : BelY px p1 R W1 := by rw [hW1]; exact (BelY.call (Below.refl _ _) hb0).sc _ _
  have hpx : W1.heap[px]? = some (.cells (.int .i64 now :: .slice p0 sv.length q0 :: .slice p1 (stay cp).length q1 :: .slice p2 bt.length q2 :: ex).toArray t (0, 0)) := by rw [hW1, heap_setCell_same W0 px 2 _ _ _ hp0]; rfl
  have ho8 : W1.ownsRow lo 81 7 (.slice p1 (stay cp).length q1) (stay cp).length ((stay cp).flatMap CpC) := by rw [hW1]; exact owns_else ho hp0 HNE _ _
  have hst : (cp.filter fun x => !x.ending) = stay cp := rfl
  rw [hst]
  clear ho hst X2
  go_upto_region 1 with fail
  rw [← hW1]
  clear hW1 x2 fz xz0 hp0 hb0
  have hsl : (stay cp).length ≤ cp.length := List.length_filter_le _ _
  have hsz : ∀ i, i < (stay cp).length → ((stay cp).getD i Cp.none).sized := fun i hi => getD_all Cp.none (p := Cp.sized) _ (fun y hy => all_getD Cp.none (p := Cp.sized) _ HXG.out.z1 y (List.mem_filter.1 hy).1) i hi
  obtain ⟨n, hn⟩ : ∃ n, n = (stay cp).length := ⟨_, rfl⟩
  rw [← hn] at hpx ho8 ⊢
  have HX1 : Hid (XG lo px t ex W1 now sv (rdy now (stay cp) 0) bt p0 p1 p2 sv.length n bt.length q0 q1 q2) :=
    HXG.out.cpsY hY hpx ho8 hn.symm hsz (by have := HXG.out.m1; omega)
  have HB1 : Hid (Below lo R W1) := hY.lo HPL.out (fun g e => (owns_typ HXG.out.o1 g e).1) HLO.out
  have HLO1 : Hid (lo ≤ W1.heap.size) := Nat.le_trans HLO.out hY.size
  have HSN := hid hn
  have HSS := hid hsz
  clear hY hpx ho8 HXL HPX HNE HPG5 HXG hsl
  clear hn hsz
  have X2 := HX1.out.cell 2 _ rfl
  have xz := lt_heap HX1.out.bx
  go_wp2
  clear X2 xz
  go_loopw [23] (fun j wr => ∃ i : Nat, i ≤ n ∧ j = .int .i64 i ∧ XG lo px t ex wr now sv (rdy now (stay cp) i) bt p0 p1 p2 sv.length n bt.length q0 q1 q2 ∧ Below lo R wr) (fun j _ => n - (intOf j).toNat)
  case atStart => exact ⟨0, Nat.zero_le _, rfl, HX1.out, HB1.out⟩
  case round =>
    obtain ⟨i, hi, rfl, hX, hB⟩ := hrel
    have HX := hid hX
    have HB := hid hB
    clear hX hB
    have hm1 := HX.out.m1
    by_cases hlt : i < n
    · have HLT : Hid (i < (stay cp).length) := by show _ < _; rw [← HSN.out]; exact hlt
      obtain ⟨M, hMM⟩ : ∃ M, M = rdy now (stay cp) i := ⟨_, rfl⟩
      have HML : Hid (M.length = n) := by show _ = _; rw [hMM, rdy_len]; exact HSN.out.symm
      obtain ⟨x, hx⟩ : ∃ x, x = M.getD i Cp.none := ⟨_, rfl⟩
      have HXE := hid hx
      have HNX : Hid (rdy now (stay cp) (i + 1) = M.set i (tick1 now x)) := by show _ = _; rw [rdy_succ now _ HLT.out, ← hMM, hx, hMM, rdy_at now _ HLT.out]
      rw [← hMM] at HX
      clear hMM
      obtain ⟨g, cur, hpg, hgl, hgh, hcs, hcell⟩ := owns_blk HX.out.o1 (Nat.lt_of_le_of_lt (Nat.zero_le _) hlt)
      subst hpg
      have cell := fun j (hj : j < 7) u (hu : (CpC x)[j]? = some u) => hcell (i * 7 + j) u ((flat_at Cp.none CpC 7 CpC_len M i j (by rw [HML.out]; exact hlt) hj).trans (by rw [← hx]; exact hu))
      have z0 : wr.cell? ⟨g, i * 7, none⟩ = some (.string x.svc) := cell 0 (by omega) _ rfl
      have z1 := cell 1 (by omega) _ rfl
      have z2 := cell 2 (by omega) _ rfl
      have z3 := cell 3 (by omega) _ rfl
      have z4 := cell 4 (by omega) _ rfl
      have z5 := cell 5 (by omega) _ rfl
      have z6 := cell 6 (by omega) _ rfl
      have gz := lt_heap hgh
      have HGL := hid hgl
      have hm0 : (0 : Int) ≤ (i : Int) := by omega
      have hm3 : (i : Int) < (n : Int) := by omega
      clear hcell cell hx hgl hcs hgh
      obtain ⟨w1, hw1⟩ : ∃ w1, w1 = wr.alloc (.cells #[.string x.svc, .int .i64 x.num, .int .i64 x.ver, .int .i64 x.image, .int .i64 x.state, .bool x.ending, .string x.berth] 81) := ⟨_, rfl⟩
      have hb1 : Below wr.heap.size wr w1 := by rw [hw1]; exact blw_alloc (Below.refl _ _) _
      obtain ⟨pc, hpc⟩ : ∃ pc, pc = wr.heap.size := ⟨_, rfl⟩
      have hC1 : LBox w1 pc [.string x.svc, .int .i64 x.num, .int .i64 x.ver, .int .i64 x.image, .int .i64 x.state, .bool x.ending, .string x.berth] := by rw [hw1]; exact LBox.new _ _ _ _ hpc
      have f4 := hC1.get 4 _ rfl
      have fz := hC1.lt
      have HX1' := hid (HX.out.later hb1)
      have HB1' : Hid (Below lo R w1) := HB.out.trans (hb1.mono (Nat.le_trans HLO.out HB.out.size))
      clear hb1 hC1
      go_upto_region 4 with fail
      rw [← hw1, ← hpc]
      clear hw1 hpc z0 z1 z2 z3 z4 z5 z6 gz HX HB
      by_cases hst : x.state = 2
      · have HTS : Hid (rdy now (stay cp) (i + 1) = M.set i (turnC x now 3)) := by show _ = _; rw [HNX.out, tick1_on hst]
        rw [hst] at f4
        clear hst
        have xz := lt_heap HX1'.out.bx
        go_wp2_with fail
        refine (turnI HX1'.out i (by rw [HML.out]; exact hlt) 3).mono ?_
        rintro e w2 ⟨rfl, hX2, g', hg', hBX⟩
        cases hg'
        rw [← HXE.out, ← HTS.out] at hX2
        have HX2 := hid hX2
        have HB2 : Hid (Below lo R w2) := HB1'.out.trans (hBX.lo HGL.out (Nat.le_trans HLO.out HB1'.out.size))
        clear hX2 hBX xz f4 fz
        go_wp2
        go_roundw
        case rel => first | exact ⟨i + 1, by omega, by go_num, HX2.out, HB2.out⟩ | exact ⟨_, ⟨i + 1, by omega, by go_num, HX2.out, HB2.out⟩, rfl⟩ | ((repeat apply Exists.intro); exact ⟨⟨i + 1, by omega, by go_num, HX2.out, HB2.out⟩, rfl⟩)
        case measure => simp [intOf]; omega
      · have hsb : (x.state == 2) = false := by simpa using hst
        have HTS : Hid (rdy now (stay cp) (i + 1) = M) := by
          show _ = _
          rw [HNX.out, tick1_off hst, HXE.out]
          have : i < M.length := by rw [HML.out]; exact hlt
          simp [this]
        rw [← HTS.out] at HX1'
        clear hst
        go_wp2
        go_roundw
        case rel => first | exact ⟨i + 1, by omega, by go_num, HX1'.out, HB1'.out⟩ | ((repeat apply Exists.intro); exact ⟨⟨i + 1, by omega, by go_num, HX1'.out, HB1'.out⟩, rfl⟩)
        case measure => simp [intOf]; omega
    · obtain rfl : i = n := by omega
      have HLF : Hid (rdy now (stay cp) i = leftTo cp now cp.length) := by show _ = _; rw [HSN.out, rdy_left]
      rw [HLF.out] at HX
      have HTK : Hid (tickOf K now = stT K now (leftTo cp now cp.length) i) := by
        show _ = _
        rw [tickOf, ← stT_tick, HKS.out.2.1, ← HX.out.l1]
      have xz := lt_heap HX.out.bx
      go_wp2_with fail
      refine (startI K HKS.out.1 HKS.out.2.2 HX.out (Nat.le_trans HLO.out HB.out.size) HNM.out ?_).mono ?_
      · refine getD_all Cp.none (p := fun y => y.state = 1 → y.berth.toList = []) _ (fun y hy hs => ?_)
        obtain ⟨d, hd, e⟩ := List.mem_map.1 hy
        have hm := List.mem_of_mem_take (List.mem_filter.1 hd).1
        have hq := all_getD Cp.none (p := fun y => y.state = 1 → y.berth.toList = []) _ HWT.out d hm
        rw [← e] at hs ⊢
        by_cases h2 : d.state = 2
        · rw [tick1_on h2] at hs; exact absurd hs (by show ¬ (3 : Int) = 1; omega)
        · rw [tick1_off h2] at hs ⊢; exact hq hs
      · rintro e w2 ⟨rfl, hX2, hb2⟩
        rw [← HTK.out] at hX2
        have HX2 := hid hX2
        have HB2 : Hid (Below lo R w2) := HB.out.trans hb2
        clear hX2 hb2 xz
        go_wp2
        first | go_end0 | refine bodyPost_ret (results_none rfl _ _ _) rfl ?_
        exact ⟨rfl, ⟨_, _, _, HX2.out⟩, HB2.out⟩

end Go.Proofs.YtclagbakddkjcaaGreat

namespace Go.Proofs.YtclagbakddkjcaaGreat
open Go.RowKit Go.Deep

theorem empty_list : ByteArray.empty.toList = [] := by kernel_rfl
def ckey (c : Cp) : List UInt8 × Int := (c.svc.toList, c.num)
def Asc (l : List (List UInt8 × Int)) : Prop := l.Pairwise fun a b => lex kc numCmp a b < 0
theorem asc_iff (l : List Cp) : ascCp l = true ↔ Asc (l.map ckey) := by
  rw [ascCp_iff]
  unfold Asc
  rw [List.pairwise_iff_getElem]
  constructor
  · intro h i j hi hj hij
    rw [List.length_map] at hi hj
    have := row_lt (lex_lin kc_lin num_lin) h i j hij hj
    simpa [ckey, hi, hj] using this
  · intro h i hi
    have := h i (i + 1) (by rw [List.length_map]; omega) (by rw [List.length_map]; omega) (Nat.lt_succ_self i)
    simpa [ckey, show i < l.length by omega, show i + 1 < l.length by omega] using this
theorem ascB_iff (l : List Bt) : ascBt l = true ↔ l.Pairwise fun a b => kc a.nm.toList b.nm.toList < 0 := by
  rw [ascBt_iff, List.pairwise_iff_getElem]
  constructor
  · intro h i j hi hj hij
    have := row_lt kc_lin h i j hij hj
    simpa [hi, hj] using this
  · intro h i hi
    have := h i (i + 1) (by omega) (by omega) (Nat.lt_succ_self i)
    simpa [show i < l.length by omega, show i + 1 < l.length by omega] using this
theorem key_set {l : List Cp} {i : Nat} {x : Cp} (h : ckey x = ckey (l.getD i Cp.none)) : (l.set i x).map ckey = l.map ckey := by
  by_cases hi : i < l.length
  · rw [List.map_set, h]
    have e : l.getD i Cp.none = l[i] := by simp [hi]
    rw [e]
    apply List.ext_getElem?
    intro j
    rw [List.getElem?_set]
    by_cases hj : i = j
    · subst hj; simp [hi]
    · simp [hj]
  · rw [List.set_eq_of_length_le (by omega)]
/-- What a valid book is. -/
structure Val (K : SBk) : Prop where
  now : 0 ≤ K.now ∧ K.now ≤ 1000000
  l0 : K.svcs.length ≤ 8
  l1 : K.cps.length ≤ 200
  l2 : K.bts.length ≤ 6
  asv : ascSv K.svcs = true
  abt : ascBt K.bts = true
  ac : Asc (K.cps.map ckey)
  s : ∀ s ∈ K.svcs, svOk s K.now = true
  b : ∀ b ∈ K.bts, snmOk b.nm = true
  c : ∀ c ∈ K.cps, cpOk K c = true
theorem val_iff (K : SBk) : sbOk K = true ↔ Val K := by
  unfold sbOk
  rw [svsOk_eq, btsOk_eq, cpsOk_eq]
  unfold svsAll btsAll cpsAll
  simp only [Bool.and_eq_true, inB, decide_eq_true_eq, allTo_iff]
  constructor
  · rintro ⟨⟨⟨⟨⟨⟨h1, h2⟩, h3⟩, h4⟩, h5, h6⟩, h7, h8⟩, h9, h10⟩
    exact ⟨h1, h2, h3, h4, h5, h7, (asc_iff _).1 h9, all_getD Sv.none (p := fun s => svOk s K.now = true) _ h6, all_getD Bt.none (p := fun b => snmOk b.nm = true) _ h8, all_getD Cp.none (p := fun c => cpOk K c = true) _ h10⟩
  · intro h
    exact ⟨⟨⟨⟨⟨⟨h.now, h.l0⟩, h.l1⟩, h.l2⟩, h.asv, getD_all Sv.none (p := fun s => svOk s K.now = true) _ h.s⟩, h.abt, getD_all Bt.none (p := fun b => snmOk b.nm = true) _ h.b⟩, (asc_iff _).2 h.ac, getD_all Cp.none (p := fun c => cpOk K c = true) _ h.c⟩
theorem svOk_up {s : Sv} {n m : Int} (h : n ≤ m) (hs : svOk s n = true) : svOk s m = true := by
  unfold svOk at hs ⊢
  simp only [Bool.and_eq_true, inB, decide_eq_true_eq] at hs ⊢
  obtain ⟨⟨⟨⟨⟨⟨⟨⟨h1, h2⟩, h3⟩, h4⟩, h5⟩, h6⟩, h7⟩, h8⟩, h9⟩ := hs
  exact ⟨⟨⟨⟨⟨⟨⟨⟨h1, h2.1, by omega⟩, h3⟩, h4⟩, h5⟩, h6⟩, h7⟩, h8⟩, h9⟩
/-- What cpOk asks. -/
structure CVal (now : Int) (sv : List Sv) (bt : List Bt) (c : Cp) : Prop where
  s : 0 ≤ svIx sv c.svc
  n : 1 ≤ c.num ∧ c.num ≤ (svGet sv (svIx sv c.svc)).next - 1
  v : 1 ≤ c.ver ∧ c.ver ≤ now
  i : 1 ≤ c.image ∧ c.image ≤ 1000000
  st : 1 ≤ c.state ∧ c.state ≤ 4
  w : c.state = 1 → same c.berth ByteArray.empty = true
  b : c.state ≠ 1 → 0 ≤ btIx bt c.berth
theorem cval_iff (K : SBk) (c : Cp) : cpOk K c = true ↔ CVal K.now K.svcs K.bts c := by
  unfold cpOk
  simp only [Bool.and_eq_true, inB, decide_eq_true_eq]
  constructor
  · rintro ⟨⟨⟨⟨⟨h1, h2⟩, h3⟩, h4⟩, h5⟩, h6⟩
    refine ⟨h1, h2, h3, h4, h5, fun e => ?_, fun e => ?_⟩
    · rw [if_pos e] at h6; exact h6
    · rw [if_neg e] at h6; exact of_decide_eq_true h6
  · intro h
    refine ⟨⟨⟨⟨⟨h.s, h.n⟩, h.v⟩, h.i⟩, h.st⟩, ?_⟩
    split
    · rename_i e; exact h.w e
    · rename_i e; exact decide_eq_true (h.b e)
theorem btIx_in {l : List Bt} {nm : ByteArray} {i : Nat} (hi : i < l.length) (h : same (l.getD i Bt.none).nm nm = true) : 0 ≤ btIx l nm := by
  rcases firstTo_cases (fun i => same (l.getD i Bt.none).nm nm) l.length with ⟨_, hn⟩ | ⟨k, _, e, _⟩
  · have := hn i hi; rw [h] at this; cases this
  · unfold btIx; omega
theorem btIx_out {l : List Bt} {nm : ByteArray} (h : 0 ≤ btIx l nm) : ∃ b ∈ l, same b.nm nm = true := by
  rcases firstTo_cases (fun i => same (l.getD i Bt.none).nm nm) l.length with ⟨e, _⟩ | ⟨k, hk, _, hp, _⟩
  · exfalso; unfold btIx at h; omega
  · refine ⟨l[k], List.getElem_mem hk, ?_⟩
    have e : l.getD k Bt.none = l[k] := by simp [hk]
    rw [← e]; exact hp
theorem btIx_mem {l : List Bt} {nm : ByteArray} {b : Bt} (hb : b ∈ l) (h : same b.nm nm = true) : 0 ≤ btIx l nm := by
  obtain ⟨i, hi, e⟩ := List.getElem_of_mem hb
  refine btIx_in hi ?_
  have : l.getD i Bt.none = l[i] := by simp [hi]
  rw [this, e]; exact h
theorem least_in (K : SBk) : ∀ i, i ≤ K.bts.length → (leastTo K i).1 = ByteArray.empty ∨ ∃ j, j < K.bts.length ∧ (leastTo K i).1 = (K.bts.getD j Bt.none).nm
  | 0, _ => Or.inl rfl
  | i + 1, hi => by
    rw [leastTo]
    split
    · exact Or.inr ⟨i, by omega, rfl⟩
    · exact least_in K i (by omega)
theorem least_ix {K : SBk} (h : (leastOf K).toList.isEmpty = false) : 0 ≤ btIx K.bts (leastOf K) := by
  rcases least_in K K.bts.length (Nat.le_refl _) with e | ⟨j, hj, e⟩
  · unfold leastOf at h; rw [e] at h; rw [show ByteArray.empty.toList.isEmpty = true from by kernel_rfl] at h; cases h
  · exact btIx_in hj (by unfold leastOf; rw [e]; exact (same_iff _ _).2 rfl)
theorem cv_up {n m : Int} {sv : List Sv} {bt : List Bt} {c : Cp} (h : CVal n sv bt c) (hm : n ≤ m) : CVal m sv bt c := ⟨h.s, h.n, ⟨h.v.1, by have := h.v.2; omega⟩, h.i, h.st, h.w, h.b⟩
theorem tick1_key (v : Int) (c : Cp) : ckey (tick1 v c) = ckey c := by unfold tick1; split <;> rfl
theorem tick1_ok {v : Int} {sv : List Sv} {bt : List Bt} {c : Cp} (hv : 1 ≤ v) (h : CVal v sv bt c) : CVal v sv bt (tick1 v c) := by
  unfold tick1
  split
  · rename_i e
    exact ⟨h.s, h.n, ⟨hv, Int.le_refl _⟩, h.i, by show (1 : Int) ≤ 3 ∧ (3 : Int) ≤ 4; omega, fun q => absurd q (by show ¬ (3 : Int) = 1; omega), fun _ => h.b (by omega)⟩
  · exact h
theorem left_key (l : List Cp) (v : Int) : (leftTo l v l.length).map ckey = (l.filter fun c => !c.ending).map ckey := by
  unfold leftTo
  rw [List.take_length, List.map_map]
  exact List.map_congr_left fun c _ => tick1_key v c
theorem tick_ok {K : SBk} {v : Int} (hv : 1 ≤ v) (hK : ∀ c ∈ K.cps, CVal v K.svcs K.bts c) : ∀ i, (∀ c ∈ tickTo K v i, CVal v K.svcs K.bts c) ∧ (tickTo K v i).map ckey = (leftTo K.cps v K.cps.length).map ckey
  | 0 => by
    refine ⟨fun c hc => ?_, rfl⟩
    obtain ⟨d, hd, e⟩ := List.mem_map.1 hc
    rw [← e]
    exact tick1_ok hv (hK d (List.mem_of_mem_take (List.mem_filter.1 hd).1))
  | i + 1 => by
    obtain ⟨h1, h2⟩ := tick_ok hv hK i
    rw [tickTo, tickS]
    obtain ⟨M, hM⟩ : ∃ M, M = tickTo K v i := ⟨_, rfl⟩
    rw [← hM] at h1 h2 ⊢
    obtain ⟨nm, hnm⟩ : ∃ nm, nm = leastOf ⟨K.now, K.svcs, M, K.bts⟩ := ⟨_, rfl⟩
    rw [← hnm]
    split
    · rename_i hc
      rw [Bool.and_eq_true, Bool.not_eq_true'] at hc
      have hix : 0 ≤ btIx K.bts nm := by
        rw [hnm]
        exact least_ix (K := ⟨K.now, K.svcs, M, K.bts⟩) (by rw [← hnm]; exact hc.2)
      by_cases hi : i < M.length
      · refine ⟨fun c hc' => ?_, ?_⟩
        · rcases List.mem_or_eq_of_mem_set hc' with q | q
          · exact h1 c q
          · have hm : M.getD i Cp.none ∈ M := by
              have e : M.getD i Cp.none = M[i] := by simp [hi]
              rw [e]; exact List.getElem_mem _
            have g := h1 _ hm
            rw [q]
            exact ⟨g.s, g.n, ⟨hv, Int.le_refl _⟩, g.i, by show (1 : Int) ≤ 2 ∧ (2 : Int) ≤ 4; omega, fun q => absurd q (by show ¬ (2 : Int) = 1; omega), fun _ => hix⟩
        · rw [key_set (x := ⟨(M.getD i Cp.none).svc, (M.getD i Cp.none).num, v, (M.getD i Cp.none).image, 2, (M.getD i Cp.none).ending, nm⟩) rfl]; exact h2
      · rw [List.set_eq_of_length_le (by omega)]; exact ⟨h1, h2⟩
    · exact ⟨h1, h2⟩
theorem tick_valid {K : SBk} (h : sbOk K = true) (hn : K.now < 1000000) : sbOk ⟨K.now + 1, K.svcs, tickOf K (K.now + 1), K.bts⟩ = true := by
  have g := (val_iff K).1 h
  have hv : 1 ≤ K.now + 1 := by have := g.now.1; omega
  obtain ⟨h1, h2⟩ := tick_ok hv (fun c hc => cv_up ((cval_iff K c).1 (g.c c hc)) (show K.now ≤ K.now + 1 by omega)) (leftTo K.cps (K.now + 1) K.cps.length).length
  have hl : (tickOf K (K.now + 1)).length ≤ K.cps.length := by
    have := congrArg List.length h2
    rw [List.length_map, List.length_map] at this
    unfold tickOf
    rw [this]
    exact leftTo_len _ _ _
  refine (val_iff _).2 ⟨⟨by show 0 ≤ K.now + 1; omega, by show K.now + 1 ≤ 1000000; omega⟩, g.l0, Nat.le_trans hl g.l1, g.l2, g.asv, g.abt, ?_, fun s hs => svOk_up (by show K.now ≤ K.now + 1; omega) (g.s s hs), g.b, fun c hc => (cval_iff _ c).2 (h1 c hc)⟩
  show Asc ((tickOf K (K.now + 1)).map ckey)
  unfold tickOf
  rw [h2, left_key]
  have ac := g.ac
  unfold Asc at ac ⊢
  rw [List.pairwise_map] at ac ⊢
  exact ac.filter _
theorem fail_valid {K : SBk} (h : sbOk K = true) (hn : K.now < 1000000) (i : Nat) (hi : i < K.cps.length) (hs : (K.cps.getD i Cp.none).state = 2 ∨ (K.cps.getD i Cp.none).state = 3) : sbOk ⟨K.now + 1, K.svcs, K.cps.set i (failC (K.cps.getD i Cp.none) (K.now + 1)), K.bts⟩ = true := by
  have g := (val_iff K).1 h
  have hn0 := g.now.1
  refine (val_iff _).2 ⟨⟨by show 0 ≤ K.now + 1; omega, by show K.now + 1 ≤ 1000000; omega⟩, g.l0, by rw [List.length_set]; exact g.l1, g.l2, g.asv, g.abt, ?_, fun s hs => svOk_up (by show K.now ≤ K.now + 1; omega) (g.s s hs), g.b, fun c hc => (cval_iff _ c).2 ?_⟩
  · show Asc ((K.cps.set i (failC (K.cps.getD i Cp.none) (K.now + 1))).map ckey)
    rw [key_set (x := failC (K.cps.getD i Cp.none) (K.now + 1)) rfl]; exact g.ac
  · rcases List.mem_or_eq_of_mem_set hc with q | q
    · exact cv_up ((cval_iff K c).1 (g.c c q)) (by show K.now ≤ K.now + 1; omega)
    · have hm : K.cps.getD i Cp.none ∈ K.cps := by
        have e : K.cps.getD i Cp.none = K.cps[i] := by simp [hi]
        rw [e]; exact List.getElem_mem _
      have f := (cval_iff K _).1 (g.c _ hm)
      rw [q]
      exact ⟨f.s, f.n, ⟨by show 1 ≤ K.now + 1; omega, Int.le_refl _⟩, f.i, by show (1 : Int) ≤ 4 ∧ (4 : Int) ≤ 4; omega, fun q => absurd q (by show ¬ (4 : Int) = 1; omega), fun _ => f.b (by omega)⟩
theorem cut_mem {l : List Bt} {b : Bt} {k : Nat} (hk : k < l.length) (hb : b ∈ l) : b ∈ l.take k ++ l.drop (k + 1) ∨ b = l.getD k Bt.none := by
  obtain ⟨i, hi, e⟩ := List.getElem_of_mem hb
  rcases Nat.lt_trichotomy i k with q | q | q
  · left
    rw [List.mem_append]
    exact Or.inl (List.mem_take_iff_getElem.2 ⟨i, by omega, e⟩)
  · right
    subst q
    rw [← e]; simp [hi]
  · left
    rw [List.mem_append]
    refine Or.inr (List.mem_drop_iff_getElem.2 ⟨i - (k + 1), by omega, ?_⟩)
    rw [← e]
    congr 1
    omega
theorem sink_valid {K : SBk} (h : sbOk K = true) (hn : K.now < 1000000) (nm : ByteArray) (k : Nat) (hk : k < K.bts.length) (hs : same (K.bts.getD k Bt.none).nm nm = true) : sbOk ⟨K.now + 1, K.svcs, awayFrom K.cps nm, K.bts.take k ++ K.bts.drop (k + 1)⟩ = true := by
  have g := (val_iff K).1 h
  have hn0 := g.now.1
  have hsub : (K.bts.take k ++ K.bts.drop (k + 1)).Sublist K.bts := by
    rw [← List.eraseIdx_eq_take_drop_succ]; exact List.eraseIdx_sublist _ _
  refine (val_iff _).2 ⟨⟨by show 0 ≤ K.now + 1; omega, by show K.now + 1 ≤ 1000000; omega⟩, g.l0, Nat.le_trans (List.length_filter_le _ _) g.l1, Nat.le_trans hsub.length_le g.l2, g.asv, ?_, ?_, fun s hs => svOk_up (by show K.now ≤ K.now + 1; omega) (g.s s hs), fun b hb => g.b b (hsub.subset hb), fun c hc => (cval_iff _ c).2 ?_⟩
  · exact (ascB_iff _).2 (((ascB_iff _).1 g.abt).sublist hsub)
  · have ac := g.ac
    unfold Asc at ac
    show Asc ((awayFrom K.cps nm).map ckey)
    unfold Asc awayFrom
    rw [List.pairwise_map] at ac ⊢
    exact ac.filter _
  · have hc' : c ∈ awayFrom K.cps nm := hc
    unfold awayFrom at hc'
    obtain ⟨hm, hne⟩ := List.mem_filter.1 hc'
    have f := cv_up ((cval_iff K c).1 (g.c c hm)) (show K.now ≤ K.now + 1 by omega)
    refine ⟨f.s, f.n, f.v, f.i, f.st, f.w, fun q => ?_⟩
    obtain ⟨b, hb, e⟩ := btIx_out (f.b q)
    rcases cut_mem hk hb with r | r
    · exact btIx_mem r e
    · exfalso
      rw [r] at e
      have e1 := (same_iff _ _).1 e
      have e2 := (same_iff _ _).1 hs
      have : same c.berth nm = true := (same_iff _ _).2 (e1.symm.trans e2)
      rw [this] at hne
      cases hne
theorem berth_names {K : SBk} (h : sbOk K = true) : ∀ i, i < K.bts.length → (K.bts.getD i Bt.none).nm.toList ≠ [] := by
  refine getD_all Bt.none (p := fun b => b.nm.toList ≠ []) _ (fun b hb e => ?_)
  have := ((val_iff K).1 h).b b hb
  simp only [snmOk, Bool.and_eq_true, decide_eq_true_eq] at this
  have h0 : b.nm = ByteArray.empty := (same_iff _ _).1 (by unfold same; rw [e, empty_list]; rfl)
  have h1 := this.1.1
  rw [h0] at h1
  exact absurd h1 (by decide)
theorem wait_berths {K : SBk} (h : sbOk K = true) : ∀ i, i < K.cps.length → (K.cps.getD i Cp.none).state = 1 → (K.cps.getD i Cp.none).berth.toList = [] := by
  refine getD_all Cp.none (p := fun c => c.state = 1 → c.berth.toList = []) _ (fun c hc e => ?_)
  have := ((cval_iff K c).1 (((val_iff K).1 h).c c hc)).w e
  have := (same_iff _ _).1 this
  rw [this]; exact empty_list

end Go.Proofs.YtclagbakddkjcaaGreat
