/-
  Stewards: ranks, by the specification.
-/
import Derived.RegionTactic
import Derived.Test.YtamhfnlogldpaaaStD
import Derived.Test.YtamhfnlogldpaaaStE
import Derived.Test.YtamhfnlogldpaaaStH
namespace Go.Proofs.Ytamhfnlogldpaaa
open Go.RowKit Go.Deep

structure Rk where
  r0 : Int
  r1 : Int
  r2 : Int
  r3 : Int
  r4 : Int
def Rk.zero : Rk := ⟨0, 0, 0, 0, 0⟩
def iabs (d : Int) : Int := if d < 0 then -d else d
def oldOr (K : SBk) (s : Sv) (c : Cp) : Bool := (c.image != s.image) || drains K c
/-- Of some copies: how many are old or drained, how many are not ready. -/
def rkL3 (K : SBk) (s : Sv) (L : List Nat) : Nat → Int
  | 0 => 0
  | k + 1 => rkL3 K s L k + bit (oldOr K s (K.cps.getD (L.getD k 0) Cp.none))
def rkL4 (K : SBk) (L : List Nat) : Nat → Int
  | 0 => 0
  | k + 1 => rkL4 K L k + bit ((K.cps.getD (L.getD k 0) Cp.none).state != 3)
theorem rkL3_le (K : SBk) (s : Sv) (L : List Nat) : ∀ k, 0 ≤ rkL3 K s L k ∧ rkL3 K s L k ≤ k
  | 0 => ⟨Int.le_refl _, Int.le_refl _⟩
  | k + 1 => by
    have := rkL3_le K s L k
    have := bit_le (oldOr K s (K.cps.getD (L.getD k 0) Cp.none))
    rw [rkL3]
    constructor <;> omega
theorem rkL4_le (K : SBk) (L : List Nat) : ∀ k, 0 ≤ rkL4 K L k ∧ rkL4 K L k ≤ k
  | 0 => ⟨Int.le_refl _, Int.le_refl _⟩
  | k + 1 => by
    have := rkL4_le K L k
    have := bit_le ((K.cps.getD (L.getD k 0) Cp.none).state != 3)
    rw [rkL4]
    constructor <;> omega
def Rk.add (r : Rk) (K : SBk) (s : Sv) : Rk :=
  if s.gone then ⟨r.r0 + 1, r.r1 + (countOf K s.nm).ending + (countOf K s.nm).live, r.r2, r.r3, r.r4⟩
  else ⟨r.r0, r.r1 + (countOf K s.nm).ending, r.r2 + iabs ((countOf K s.nm).live - s.want), r.r3 + rkL3 K s (liveOf K s.nm) (liveOf K s.nm).length, r.r4 + rkL4 K (liveOf K s.nm) (liveOf K s.nm).length⟩
def rkTo (K : SBk) : Nat → Rk
  | 0 => Rk.zero
  | k + 1 => (rkTo K k).add K (K.svcs.getD k Sv.none)
def rankOf (K : SBk) : Rk := if sbOk K then rkTo K K.svcs.length else Rk.zero
def Rk.le (r : Rk) (m : Nat) : Prop := (0 ≤ r.r0 ∧ r.r0 ≤ m) ∧ (0 ≤ r.r1 ∧ r.r1 ≤ m) ∧ (0 ≤ r.r2 ∧ r.r2 ≤ m) ∧ (0 ≤ r.r3 ∧ r.r3 ≤ m) ∧ (0 ≤ r.r4 ∧ r.r4 ≤ m)
theorem count_le' (K : SBk) (svc : ByteArray) : (countOf K svc).le K.cps.length := by
  unfold countOf
  split
  · exact cnTo_le _ _ _ _
  · exact ⟨⟨by simp [Cn.zero], by simp [Cn.zero]⟩, ⟨by simp [Cn.zero], by simp [Cn.zero]⟩, ⟨by simp [Cn.zero], by simp [Cn.zero]⟩, ⟨by simp [Cn.zero], by simp [Cn.zero]⟩, ⟨by simp [Cn.zero], by simp [Cn.zero]⟩⟩
theorem rkTo_le {K : SBk} (hc : K.cps.length ≤ 200) (hw : ∀ i, i < K.svcs.length → 0 ≤ (K.svcs.getD i Sv.none).want ∧ (K.svcs.getD i Sv.none).want ≤ 10) : ∀ k, k ≤ K.svcs.length → (rkTo K k).le (k * 1000)
  | 0, _ => ⟨⟨Int.le_refl _, Int.le_refl _⟩, ⟨Int.le_refl _, Int.le_refl _⟩, ⟨Int.le_refl _, Int.le_refl _⟩, ⟨Int.le_refl _, Int.le_refl _⟩, ⟨Int.le_refl _, Int.le_refl _⟩⟩
  | k + 1, hk => by
    obtain ⟨h0, h1, h2, h3, h4⟩ := rkTo_le hc hw k (by omega)
    have hwk := hw k (by omega)
    rw [rkTo]
    obtain ⟨s, hs⟩ : ∃ s, s = K.svcs.getD k Sv.none := ⟨_, rfl⟩
    rw [← hs] at hwk ⊢
    obtain ⟨n0, _, _, _, n4⟩ := count_le' K s.nm
    have l1 := liveTo_len K.cps s.nm K.cps.length
    have l3 := rkL3_le K s (liveOf K s.nm) (liveOf K s.nm).length
    have l4 := rkL4_le K (liveOf K s.nm) (liveOf K s.nm).length
    have l5 : (liveOf K s.nm).length ≤ 200 := Nat.le_trans l1 hc
    have ia : 0 ≤ iabs ((countOf K s.nm).live - s.want) ∧ iabs ((countOf K s.nm).live - s.want) ≤ 210 := by
      unfold iabs
      split <;> constructor <;> omega
    unfold Rk.add
    split
    · refine ⟨⟨?_, ?_⟩, ⟨?_, ?_⟩, ⟨?_, ?_⟩, ⟨?_, ?_⟩, ⟨?_, ?_⟩⟩ <;> simp only <;> omega
    · refine ⟨⟨?_, ?_⟩, ⟨?_, ?_⟩, ⟨?_, ?_⟩, ⟨?_, ?_⟩, ⟨?_, ?_⟩⟩ <;> simp only <;> omega

/-- What is kept while ranks are summed up: the book's box, the row of the five. -/
structure QInv (w W : World) (v0 v1 v2 v3 : Value) (r0 r1 r2 r3 r4 : Int) : Prop where
  below : Below w.heap.size w W
  box : Box4 W w.heap.size v0 v1 v2 v3
  own : OwnBlk W (w.heap.size + 1) 3 5
  d0 : W.cell? ⟨w.heap.size + 1, 0, none⟩ = some (.int .i64 r0)
  d1 : W.cell? ⟨w.heap.size + 1, 1, none⟩ = some (.int .i64 r1)
  d2 : W.cell? ⟨w.heap.size + 1, 2, none⟩ = some (.int .i64 r2)
  d3 : W.cell? ⟨w.heap.size + 1, 3, none⟩ = some (.int .i64 r3)
  d4 : W.cell? ⟨w.heap.size + 1, 4, none⟩ = some (.int .i64 r4)
section
variable {w W : World} {v0 v1 v2 v3 : Value} {r0 r1 r2 r3 r4 : Int}
theorem QInv.later (h : QInv w W v0 v1 v2 v3 r0 r1 r2 r3 r4) {W' : World} (hb : Below W.heap.size W W') : QInv w W' v0 v1 v2 v3 r0 r1 r2 r3 r4 :=
  ⟨blw_trans h.below hb, h.box.later hb, h.own.later hb, (hb.cell (p := ⟨_, 0, none⟩) h.own.lt).trans h.d0, (hb.cell (p := ⟨_, 1, none⟩) h.own.lt).trans h.d1, (hb.cell (p := ⟨_, 2, none⟩) h.own.lt).trans h.d2, (hb.cell (p := ⟨_, 3, none⟩) h.own.lt).trans h.d3, (hb.cell (p := ⟨_, 4, none⟩) h.own.lt).trans h.d4⟩
theorem QInv.past (h : QInv w W v0 v1 v2 v3 r0 r1 r2 r3 r4) (o : Obj) : QInv w (W.alloc o) v0 v1 v2 v3 r0 r1 r2 r3 r4 := h.later (blw_alloc (Below.refl _ _) o)
theorem QInv.drewN (h : QInv w W v0 v1 v2 v3 r0 r1 r2 r3 r4) (n : Nat) : QInv w (W.drewN n) v0 v1 v2 v3 r0 r1 r2 r3 r4 := h.later (blw_drewN (Below.refl _ _) n)
theorem QInv.drew (h : QInv w W v0 v1 v2 v3 r0 r1 r2 r3 r4) : QInv w W.drew v0 v1 v2 v3 r0 r1 r2 r3 r4 := h.later (Below.drew (Below.refl _ _))
theorem QInv.sbox (h : QInv w W v0 v1 v2 v3 r0 r1 r2 r3 r4) (j : Nat) (v : Value) : Box4 (W.setCell ⟨w.heap.size + 1, j, none⟩ v) w.heap.size v0 v1 v2 v3 :=
  ⟨by rw [sc_size]; exact h.box.lt, (sc_ne _ _ _ _ _ _ (by omega)).trans h.box.x0, (sc_ne _ _ _ _ _ _ (by omega)).trans h.box.x1, (sc_ne _ _ _ _ _ _ (by omega)).trans h.box.x2, (sc_ne _ _ _ _ _ _ (by omega)).trans h.box.x3⟩
theorem QInv.sbel (h : QInv w W v0 v1 v2 v3 r0 r1 r2 r3 r4) (j : Nat) (v : Value) : Below w.heap.size w (W.setCell ⟨w.heap.size + 1, j, none⟩ v) := h.below.setCell (p := ⟨w.heap.size + 1, j, none⟩) (by show w.heap.size ≤ w.heap.size + 1; omega) v
theorem QInv.set0 (h : QInv w W v0 v1 v2 v3 r0 r1 r2 r3 r4) (x : Int) : QInv w (W.setCell ⟨w.heap.size + 1, 0, none⟩ (.int .i64 x)) v0 v1 v2 v3 x r1 r2 r3 r4 :=
  ⟨h.sbel _ _, h.sbox _ _, h.own.setCell _ _, sc_eq h.own 0 (by omega) _, (sc_ne _ _ _ _ _ _ (by omega)).trans h.d1, (sc_ne _ _ _ _ _ _ (by omega)).trans h.d2, (sc_ne _ _ _ _ _ _ (by omega)).trans h.d3, (sc_ne _ _ _ _ _ _ (by omega)).trans h.d4⟩
theorem QInv.set1 (h : QInv w W v0 v1 v2 v3 r0 r1 r2 r3 r4) (x : Int) : QInv w (W.setCell ⟨w.heap.size + 1, 1, none⟩ (.int .i64 x)) v0 v1 v2 v3 r0 x r2 r3 r4 :=
  ⟨h.sbel _ _, h.sbox _ _, h.own.setCell _ _, (sc_ne _ _ _ _ _ _ (by omega)).trans h.d0, sc_eq h.own 1 (by omega) _, (sc_ne _ _ _ _ _ _ (by omega)).trans h.d2, (sc_ne _ _ _ _ _ _ (by omega)).trans h.d3, (sc_ne _ _ _ _ _ _ (by omega)).trans h.d4⟩
theorem QInv.set2 (h : QInv w W v0 v1 v2 v3 r0 r1 r2 r3 r4) (x : Int) : QInv w (W.setCell ⟨w.heap.size + 1, 2, none⟩ (.int .i64 x)) v0 v1 v2 v3 r0 r1 x r3 r4 :=
  ⟨h.sbel _ _, h.sbox _ _, h.own.setCell _ _, (sc_ne _ _ _ _ _ _ (by omega)).trans h.d0, (sc_ne _ _ _ _ _ _ (by omega)).trans h.d1, sc_eq h.own 2 (by omega) _, (sc_ne _ _ _ _ _ _ (by omega)).trans h.d3, (sc_ne _ _ _ _ _ _ (by omega)).trans h.d4⟩
theorem QInv.set3 (h : QInv w W v0 v1 v2 v3 r0 r1 r2 r3 r4) (x : Int) : QInv w (W.setCell ⟨w.heap.size + 1, 3, none⟩ (.int .i64 x)) v0 v1 v2 v3 r0 r1 r2 x r4 :=
  ⟨h.sbel _ _, h.sbox _ _, h.own.setCell _ _, (sc_ne _ _ _ _ _ _ (by omega)).trans h.d0, (sc_ne _ _ _ _ _ _ (by omega)).trans h.d1, (sc_ne _ _ _ _ _ _ (by omega)).trans h.d2, sc_eq h.own 3 (by omega) _, (sc_ne _ _ _ _ _ _ (by omega)).trans h.d4⟩
theorem QInv.set4 (h : QInv w W v0 v1 v2 v3 r0 r1 r2 r3 r4) (x : Int) : QInv w (W.setCell ⟨w.heap.size + 1, 4, none⟩ (.int .i64 x)) v0 v1 v2 v3 r0 r1 r2 r3 x :=
  ⟨h.sbel _ _, h.sbox _ _, h.own.setCell _ _, (sc_ne _ _ _ _ _ _ (by omega)).trans h.d0, (sc_ne _ _ _ _ _ _ (by omega)).trans h.d1, (sc_ne _ _ _ _ _ _ (by omega)).trans h.d2, (sc_ne _ _ _ _ _ _ (by omega)).trans h.d3, sc_eq h.own 4 (by omega) _⟩
end

theorem Box13.sc {W : World} {p B : Nat} {v0 v1 v2 v3 v4 v5 v6 v7 v8 v9 v10 v11 v12 : Value} (h : Box13 W p v0 v1 v2 v3 v4 v5 v6 v7 v8 v9 v10 v11 v12) (hne : p ≠ B) (j : Nat) (v : Value) : Box13 (W.setCell ⟨B, j, none⟩ v) p v0 v1 v2 v3 v4 v5 v6 v7 v8 v9 v10 v11 v12 :=
  ⟨by rw [sc_size]; exact h.lt, (sc_ne _ _ _ _ _ _ (Or.inl hne)).trans h.x0, (sc_ne _ _ _ _ _ _ (Or.inl hne)).trans h.x1, (sc_ne _ _ _ _ _ _ (Or.inl hne)).trans h.x2, (sc_ne _ _ _ _ _ _ (Or.inl hne)).trans h.x3, (sc_ne _ _ _ _ _ _ (Or.inl hne)).trans h.x4, (sc_ne _ _ _ _ _ _ (Or.inl hne)).trans h.x5, (sc_ne _ _ _ _ _ _ (Or.inl hne)).trans h.x6, (sc_ne _ _ _ _ _ _ (Or.inl hne)).trans h.x7, (sc_ne _ _ _ _ _ _ (Or.inl hne)).trans h.x8, (sc_ne _ _ _ _ _ _ (Or.inl hne)).trans h.x9, (sc_ne _ _ _ _ _ _ (Or.inl hne)).trans h.x10, (sc_ne _ _ _ _ _ _ (Or.inl hne)).trans h.x11, (sc_ne _ _ _ _ _ _ (Or.inl hne)).trans h.x12⟩
theorem Box5.sc {W : World} {p B : Nat} {v0 v1 v2 v3 v4 : Value} (h : Box5 W p v0 v1 v2 v3 v4) (hne : p ≠ B) (j : Nat) (v : Value) : Box5 (W.setCell ⟨B, j, none⟩ v) p v0 v1 v2 v3 v4 :=
  ⟨by rw [sc_size]; exact h.lt, (sc_ne _ _ _ _ _ _ (Or.inl hne)).trans h.x0, (sc_ne _ _ _ _ _ _ (Or.inl hne)).trans h.x1, (sc_ne _ _ _ _ _ _ (Or.inl hne)).trans h.x2, (sc_ne _ _ _ _ _ _ (Or.inl hne)).trans h.x3, (sc_ne _ _ _ _ _ _ (Or.inl hne)).trans h.x4⟩

theorem owns_get {W : World} {lo : Nat} {a : Option Addr} {c : Nat} {L : List Nat} (h : W.ownsRow lo 3 1 (.slice a L.length c) L.length (nums L)) {j : Nat} (hj : j < L.length) :
    ∃ g, a = some ⟨g, 0, none⟩ ∧ g < W.heap.size ∧ lo ≤ g ∧ W.cell? ⟨g, j, none⟩ = some (.int .i64 ((L.getD j 0 : Nat) : Int)) := by
  rcases h.2 with ⟨_, h0⟩ | ⟨g, cap, cur, hv, hb, hg, hn, hm, hs, ht⟩
  · omega
  · injection hv with hv _ _
    subst hv
    refine ⟨g, rfl, (Array.getElem?_eq_some_iff.1 hg).1, hb, ?_⟩
    have q : (nums L)[j]? = cur.toList[j]? := by rw [← ht, List.getElem?_take, if_pos (by omega)]
    rw [nums_at hj] at q
    simp only [World.cell?, hg]
    simpa using q.symm
theorem owns_sci {W : World} {lo e size n : Nat} {v : Value} {xs : List Value} (h : W.ownsRow lo e size v n xs) {B : Nat} (hB : B < lo) (j : Nat) (u : Value) : (W.setCell ⟨B, j, none⟩ u).ownsRow lo e size v n xs := by
  refine ⟨h.1, ?_⟩
  rcases h.2 with q | ⟨g, cap, cur, q1, q2, q3, q4⟩
  · exact Or.inl q
  · exact Or.inr ⟨g, cap, cur, q1, q2, by rw [Below.heap_setCell W ⟨B, j, none⟩ u g (by show g ≠ B; omega)]; exact q3, q4⟩
theorem getD_mem {L : List Nat} {j : Nat} (h : j < L.length) : L.getD j 0 ∈ L := by
  have e : L.getD j 0 = L[j] := by simp [h]
  rw [e]; exact List.getElem_mem h

set_option maxRecDepth 8000 in
set_option maxHeartbeats 40000000 in
theorem stewRankS (K : SBk) (a0 a1 a2 : Option Addr) (c0 c1 c2 : Nat) (w : World) (h : SBkV w a0 a1 a2 K) :
    Calls Try.prog 10 #[.agg #[.int .i64 K.now, .slice a0 K.svcs.length c0, .slice a1 K.cps.length c1, .slice a2 K.bts.length c2]] w fun e w' => (e = .returned (.slice (some ⟨w.heap.size + 1, 0, none⟩) 5 5) ∧ OwnBlk w' (w.heap.size + 1) 3 5 ∧ w'.cell? ⟨w.heap.size + 1, 0, none⟩ = some (.int .i64 (rankOf K).r0) ∧ w'.cell? ⟨w.heap.size + 1, 1, none⟩ = some (.int .i64 (rankOf K).r1) ∧ w'.cell? ⟨w.heap.size + 1, 2, none⟩ = some (.int .i64 (rankOf K).r2) ∧ w'.cell? ⟨w.heap.size + 1, 3, none⟩ = some (.int .i64 (rankOf K).r3) ∧ w'.cell? ⟨w.heap.size + 1, 4, none⟩ = some (.int .i64 (rankOf K).r4)) ∧ Below w.heap.size w w' := by
  have HH : Hid (SBkV w a0 a1 a2 K) := h
  clear h
  obtain ⟨wa, hwa⟩ : ∃ wa, wa = (w.alloc (.cells #[.int .i64 K.now, .slice a0 K.svcs.length c0, .slice a1 K.cps.length c1, .slice a2 K.bts.length c2] 33)).alloc (.cells #[.int .i64 0, .int .i64 0, .int .i64 0, .int .i64 0, .int .i64 0] 3) := ⟨_, rfl⟩
  have HI : Hid (QInv w wa (.int .i64 K.now) (.slice a0 K.svcs.length c0) (.slice a1 K.cps.length c1) (.slice a2 K.bts.length c2) 0 0 0 0 0) := by
    show QInv _ _ _ _ _ _ _ _ _ _ _
    rw [hwa]
    exact ⟨blw_alloc (blw_alloc (Below.refl _ _) _) _, (Box4.new' w _ _ _ _ _ _ rfl).past _, OwnBlk.alloc_at2 _ _ _ _ _ rfl (by simp), World.cell?_alloc_at _ _ _ _ (by simp), World.cell?_alloc_at _ _ _ _ (by simp), World.cell?_alloc_at _ _ _ _ (by simp), World.cell?_alloc_at _ _ _ _ (by simp), World.cell?_alloc_at _ _ _ _ (by simp)⟩
  go_enter Try.func10, Try.ntmps10
  go_upto_region 2 with fail
  rw [← hwa]
  clear hwa
  obtain ⟨yz, y0, y1, y2, y3⟩ := HI.out.box
  go_wp2_with fail
  refine (stewValidS K a0 a1 a2 c0 c1 c2 wa (HH.out.later HI.out.below)).mono ?_
  rintro e w1 ⟨rfl, hb⟩
  have HI1 := hid (HI.out.later hb)
  clear yz y0 y1 y2 y3 HI hb
  cases hok : sbOk K
  · have HE : Hid (rankOf K = Rk.zero) := by show _ = _; rw [rankOf, hok]; rfl
    clear hok
    go_wp2
    go_ret
    rw [HE.out]
    exact ⟨⟨rfl, HI1.out.own, HI1.out.d0, HI1.out.d1, HI1.out.d2, HI1.out.d3, HI1.out.d4⟩, HI1.out.below⟩
  · have HE : Hid (rankOf K = rkTo K K.svcs.length) := by show _ = _; rw [rankOf, hok]; rfl
    have hbk : Hid (K.svcs.length ≤ 8 ∧ K.cps.length ≤ 200 ∧ svsOk K = true) := by
      show _ ∧ _ ∧ _
      simp only [sbOk, Bool.and_eq_true, decide_eq_true_eq] at hok
      exact ⟨hok.1.1.1.1.1.2, hok.1.1.1.1.2, hok.1.1.2⟩
    have HW : Hid (∀ i, i < K.svcs.length → 0 ≤ (K.svcs.getD i Sv.none).want ∧ (K.svcs.getD i Sv.none).want ≤ 10) := by
      intro i hi
      have q := (allTo_iff _ _).1 hbk.out.2.2 i hi
      simp only [svOk, inB, Bool.and_eq_true, decide_eq_true_eq] at q
      omega
    have hs8 := hbk.out.1
    have hc200 := hbk.out.2.1
    clear hok
    go_wp2
    go_loopw [4] (fun i wr => ∃ q : Nat, q ≤ K.svcs.length ∧ i = .int .i64 q ∧ QInv w wr (.int .i64 K.now) (.slice a0 K.svcs.length c0) (.slice a1 K.cps.length c1) (.slice a2 K.bts.length c2) (rkTo K q).r0 (rkTo K q).r1 (rkTo K q).r2 (rkTo K q).r3 (rkTo K q).r4) (fun i _ => K.svcs.length - (intOf i).toNat)
    case atStart => exact ⟨0, Nat.zero_le _, rfl, HI1.out⟩
    case round =>
      obtain ⟨q, hq, rfl, hI⟩ := hrel
      have HI := hid hI
      clear hI HI1
      obtain ⟨yz, y0, y1, y2, y3⟩ := HI.out.box
      by_cases hlt : q < K.svcs.length
      · obtain ⟨b, off, ha, hbl, hf⟩ := (HH.out.later HI.out.below).s.at_ q hlt
        subst ha
        obtain ⟨x, hx⟩ : ∃ x, x = K.svcs.getD q Sv.none := ⟨_, rfl⟩
        rw [← hx] at hf
        have hwx := HW.out q hlt
        rw [← hx] at hwx
        obtain ⟨e0, e1, e2, e3, e4, e5, e6, e7, e8, e9, e10, e11, e12, _⟩ := hf
        obtain ⟨⟨l0, m0⟩, ⟨l1, m1⟩, ⟨l2, m2⟩, ⟨l3, m3⟩, ⟨l4, m4⟩⟩ := rkTo_le hc200 HW.out q hq
        obtain ⟨r, hr⟩ : ∃ r, r = rkTo K q := ⟨_, rfl⟩
        have HNX : Hid (rkTo K (q + 1) = r.add K x) := by show (rkTo K q).add K _ = _; rw [← hr, ← hx]
        rw [← hr] at HI l0 m0 l1 m1 l2 m2 l3 m3 l4 m4
        clear hx hr
        have hm0 : (0 : Int) ≤ (q : Int) := by omega
        have hm3 : (q : Int) < (K.svcs.length : Int) := by omega
        obtain ⟨w2, hw2⟩ : ∃ w2, w2 = wr.alloc (.cells #[.string x.nm, .int .i64 x.ver, .bool x.gone, .int .i64 x.image, .int .i64 x.want, .int .i64 x.down, .int .i64 x.over, .int .i64 x.next, .int .i64 x.per, .int .i64 x.least, .int .i64 x.most, .int .i64 x.load, .int .i64 x.cool] 46) := ⟨_, rfl⟩
        obtain ⟨p5, hp5⟩ : ∃ p5, p5 = wr.heap.size := ⟨_, rfl⟩
        have HI2 : Hid (QInv w w2 (.int .i64 K.now) (.slice (some ⟨b, off, none⟩) K.svcs.length c0) (.slice a1 K.cps.length c1) (.slice a2 K.bts.length c2) r.r0 r.r1 r.r2 r.r3 r.r4) := by show QInv _ _ _ _ _ _ _ _ _ _ _; rw [hw2]; exact HI.out.past _
        have HS2 : Hid (Box13 w2 p5 (.string x.nm) (.int .i64 x.ver) (.bool x.gone) (.int .i64 x.image) (.int .i64 x.want) (.int .i64 x.down) (.int .i64 x.over) (.int .i64 x.next) (.int .i64 x.per) (.int .i64 x.least) (.int .i64 x.most) (.int .i64 x.load) (.int .i64 x.cool)) := by show Box13 _ _ _ _ _ _ _ _ _ _ _ _ _ _ _ ; rw [hw2]; exact Box13.new' wr _ _ _ _ _ _ _ _ _ _ _ _ _ _ _ hp5
        have hp5g : w.heap.size + 1 < p5 := by rw [hp5]; exact HI.out.own.lt
        go_upto_region 8 with fail
        rw [← hw2, ← hp5]
        clear hw2 hp5 yz y0 y1 y2 y3 HI hbl e0 e1 e2 e3 e4 e5 e6 e7 e8 e9 e10 e11 e12
        obtain ⟨yz, y0, y1, y2, y3⟩ := HI2.out.box
        obtain ⟨sz, s0, _, _, _, _, _, _, _, _, _, _, _, _⟩ := HS2.out
        go_wp2_with fail
        refine (l13CountS K (some ⟨b, off, none⟩) a1 a2 c0 c1 c2 x.nm w2 (HH.out.later HI2.out.below) (by omega)).mono ?_
        rintro e w3 ⟨rfl, hb⟩
        obtain ⟨⟨g0, k0⟩, _, _, _, ⟨g4, k4⟩⟩ := count_le' K x.nm
        obtain ⟨n, hn⟩ : ∃ n, n = countOf K x.nm := ⟨_, rfl⟩
        have HCN := hid hn
        rw [← hn] at g0 k0 g4 k4 ⊢
        clear hn
        obtain ⟨w4, hw4⟩ : ∃ w4, w4 = w3.alloc (.cells #[.int .i64 n.live, .int .i64 n.ready, .int .i64 n.old, .int .i64 n.failed, .int .i64 n.ending] 59) := ⟨_, rfl⟩
        obtain ⟨p6, hp6⟩ : ∃ p6, p6 = w3.heap.size := ⟨_, rfl⟩
        have hb4 : Below w3.heap.size w3 w4 := by rw [hw4]; exact blw_alloc (Below.refl _ _) _
        have HI4 := hid ((HI2.out.later hb).later hb4)
        have HS4 := hid ((HS2.out.later hb).later hb4)
        have HN4 : Hid (Box5 w4 p6 (.int .i64 n.live) (.int .i64 n.ready) (.int .i64 n.old) (.int .i64 n.failed) (.int .i64 n.ending)) := by show Box5 _ _ _ _ _ _ _; rw [hw4]; exact Box5.new' w3 _ _ _ _ _ _ _ hp6
        have hp6g : w.heap.size + 1 < p6 := by rw [hp6]; exact (HI2.out.later hb).own.lt
        clear yz y0 y1 y2 y3 sz s0
        go_upto_region 9 with fail
        rw [← hw4, ← hp6]
        clear hw4 hp6 hb hb4 HI2 HS2
        obtain ⟨yz, y0, y1, y2, y3⟩ := HI4.out.box
        obtain ⟨nz, n0, n1, n2, n3, n4⟩ := HN4.out
        obtain ⟨sz, s0, s1, s2, s3, s4, _, _, _, _, _, _, _, _⟩ := HS4.out
        have d0 := HI4.out.d0
        have d1 := HI4.out.d1
        have d2 := HI4.out.d2
        have d3 := HI4.out.d3
        have d4 := HI4.out.d4
        have dz := HI4.out.own.lt
        have hfz := HI4.out.own.frozen
        go_region
        obtain ⟨w5, hw5⟩ : ∃ w5, w5 = (w4.setCell ⟨w.heap.size + 1, 1, none⟩ (.int .i64 (r.r1 + n.ending))).drew := ⟨_, rfl⟩
        have HI5 : Hid (QInv w w5 (.int .i64 K.now) (.slice (some ⟨b, off, none⟩) K.svcs.length c0) (.slice a1 K.cps.length c1) (.slice a2 K.bts.length c2) r.r0 (r.r1 + n.ending) r.r2 r.r3 r.r4) := by show QInv _ _ _ _ _ _ _ _ _ _ _; rw [hw5]; exact (HI4.out.set1 _).drew
        have HS5 : Hid (Box13 w5 p5 (.string x.nm) (.int .i64 x.ver) (.bool x.gone) (.int .i64 x.image) (.int .i64 x.want) (.int .i64 x.down) (.int .i64 x.over) (.int .i64 x.next) (.int .i64 x.per) (.int .i64 x.least) (.int .i64 x.most) (.int .i64 x.load) (.int .i64 x.cool)) := by show Box13 _ _ _ _ _ _ _ _ _ _ _ _ _ _ _ ; rw [hw5]; exact (HS4.out.sc (by omega) _ _).later (Below.drew (Below.refl _ _))
        have HN5 : Hid (Box5 w5 p6 (.int .i64 n.live) (.int .i64 n.ready) (.int .i64 n.old) (.int .i64 n.failed) (.int .i64 n.ending)) := by show Box5 _ _ _ _ _ _ _; rw [hw5]; exact (HN4.out.sc (by omega) _ _).later (Below.drew (Below.refl _ _))
        rw [← hw5]
        clear hw5 yz y0 y1 y2 y3 nz n0 n1 n2 n3 n4 sz s0 s1 s2 s3 s4 d0 d1 d2 d3 d4 dz hfz HI4 HS4 HN4
        obtain ⟨yz, y0, y1, y2, y3⟩ := HI5.out.box
        obtain ⟨nz, n0, n1, n2, n3, n4⟩ := HN5.out
        obtain ⟨sz, s0, s1, s2, s3, s4, _, _, _, _, _, _, _, _⟩ := HS5.out
        have d0 := HI5.out.d0
        have d1 := HI5.out.d1
        have d2 := HI5.out.d2
        have d3 := HI5.out.d3
        have d4 := HI5.out.d4
        have dz := HI5.out.own.lt
        have hfz := HI5.out.own.frozen
        rcases (Bool.eq_false_or_eq_true x.gone) with g1 | g1
        · have HNG : Hid (rkTo K (q + 1) = ⟨r.r0 + 1, r.r1 + n.ending + n.live, r.r2, r.r3, r.r4⟩) := by show _ = _; rw [HNX.out, Rk.add, g1, ← HCN.out]; rfl
          rw [g1] at s2
          clear HNX
          go_wp2
          go_region
          go_wp2
          go_roundw
          case rel =>
            refine ⟨q + 1, by omega, by go_num, ?_⟩
            rw [HNG.out]
            exact ((HI5.out.set0 _).set1 _).drew
          case measure => simp [intOf]; omega
        · obtain ⟨dd, hdd⟩ : ∃ dd, dd = iabs (n.live - x.want) := ⟨_, rfl⟩
          obtain ⟨L, hL⟩ : ∃ L, L = liveOf K x.nm := ⟨_, rfl⟩
          have HL := hid hL
          have HNG : Hid (rkTo K (q + 1) = ⟨r.r0, r.r1 + n.ending, r.r2 + dd, r.r3 + rkL3 K x L L.length, r.r4 + rkL4 K L L.length⟩) := by show _ = _; rw [HNX.out, Rk.add, g1, ← HCN.out, hdd, hL]; rfl
          rw [g1] at s2
          obtain ⟨w6, hw6⟩ : ∃ w6, w6 = w5.setCell ⟨w.heap.size + 1, 2, none⟩ (.int .i64 (r.r2 + dd)) := ⟨_, rfl⟩
          have HI6 : Hid (QInv w w6 (.int .i64 K.now) (.slice (some ⟨b, off, none⟩) K.svcs.length c0) (.slice a1 K.cps.length c1) (.slice a2 K.bts.length c2) r.r0 (r.r1 + n.ending) (r.r2 + dd) r.r3 r.r4) := by show QInv _ _ _ _ _ _ _ _ _ _ _; rw [hw6]; exact HI5.out.set2 _
          have HS6 : Hid (Box13 w6 p5 (.string x.nm) (.int .i64 x.ver) (.bool x.gone) (.int .i64 x.image) (.int .i64 x.want) (.int .i64 x.down) (.int .i64 x.over) (.int .i64 x.next) (.int .i64 x.per) (.int .i64 x.least) (.int .i64 x.most) (.int .i64 x.load) (.int .i64 x.cool)) := by show Box13 _ _ _ _ _ _ _ _ _ _ _ _ _ _ _ ; rw [hw6]; exact HS5.out.sc (by omega) _ _
          have hdb : 0 ≤ dd ∧ dd ≤ 210 := by rw [hdd]; unfold iabs; split <;> constructor <;> omega
          have HDD := hid hdd
          clear HNX hL hdd
          obtain ⟨j0, j1⟩ := hdb
          by_cases cd : n.live - x.want < 0
          all_goals
            first
            | (have ed : -(n.live - x.want) = dd := by rw [HDD.out, iabs, if_pos cd])
            | (have ed : n.live - x.want = dd := by rw [HDD.out, iabs, if_neg cd])
            go_upto_region 17 with fail
            rw [← hw6]
            clear hw6 ed cd yz y0 y1 y2 y3 nz n0 n1 n2 n3 n4 sz s0 s1 s2 s3 s4 d0 d1 d2 d3 d4 dz hfz HI5 HS5 HN5
            obtain ⟨yz, y0, y1, y2, y3⟩ := HI6.out.box
            obtain ⟨sz, s0, _, _, _, _, _, _, _, _, _, _, _, _⟩ := HS6.out
            go_wp2_with fail
            refine (l16LiveS K (some ⟨b, off, none⟩) a1 a2 c0 c1 c2 x.nm w6 (HH.out.later HI6.out.below) (by omega)).mono ?_
            rintro e w7 ⟨⟨v, rfl, hown⟩, hb⟩
            rw [← HL.out] at hown
            have HO7 := hid hown
            have HI7 := hid (HI6.out.later hb)
            have HS7 := hid (HS6.out.later hb)
            obtain ⟨av, cv, hv⟩ := owns_slice hown
            subst hv
            have h6 : w.heap.size + 1 < w6.heap.size := HI6.out.own.lt
            have hLn : L.length ≤ 200 := by rw [HL.out]; exact Nat.le_trans (liveTo_len _ _ _) hc200
            clear hown hb yz y0 y1 y2 y3 sz s0 HI6 HS6
            go_wp2
            go_loopw [9] (fun i wq => ∃ j : Nat, j ≤ L.length ∧ i = .int .i64 j ∧ QInv w wq (.int .i64 K.now) (.slice (some ⟨b, off, none⟩) K.svcs.length c0) (.slice a1 K.cps.length c1) (.slice a2 K.bts.length c2) r.r0 (r.r1 + n.ending) (r.r2 + dd) (r.r3 + rkL3 K x L j) (r.r4 + rkL4 K L j) ∧ wq.ownsRow w6.heap.size 3 1 (.slice av L.length cv) L.length (nums L) ∧ Box13 wq p5 (.string x.nm) (.int .i64 x.ver) (.bool x.gone) (.int .i64 x.image) (.int .i64 x.want) (.int .i64 x.down) (.int .i64 x.over) (.int .i64 x.next) (.int .i64 x.per) (.int .i64 x.least) (.int .i64 x.most) (.int .i64 x.load) (.int .i64 x.cool)) (fun i _ => L.length - (intOf i).toNat)
            case atStart => exact ⟨0, Nat.zero_le _, rfl, by simpa [rkL3, rkL4] using HI7.out, HO7.out, HS7.out⟩
            case round =>
              obtain ⟨j, hj, rfl, hI, hO, hS⟩ := hrel
              have HI8 := hid hI
              have HO8 := hid hO
              have HS8 := hid hS
              clear hI hO hS HI7 HO7 HS7
              by_cases hjl : j < L.length
              · obtain ⟨g, hav, hgl, hgb, hgc⟩ := owns_get HO8.out hjl
                subst hav
                obtain ⟨z, hz⟩ : ∃ z, z = L.getD j 0 := ⟨_, rfl⟩
                have hzl : z < K.cps.length := by
                  have q := getD_mem hjl
                  rw [← hz, HL.out] at q
                  exact (liveTo_lt _ _ _ _ q).1
                rw [← hz] at hgc
                obtain ⟨b1, off1, ha1, hbl1, hf1⟩ := (HH.out.later HI8.out.below).c.at_ z hzl
                subst ha1
                obtain ⟨y, hy⟩ : ∃ y, y = K.cps.getD z Cp.none := ⟨_, rfl⟩
                rw [← hy] at hf1
                obtain ⟨e0, e1, e2, e3, e4, e5, e6, _⟩ := hf1
                have HX3 : Hid (rkL3 K x L (j + 1) = rkL3 K x L j + bit (oldOr K x y)) := by show _ = _; rw [rkL3, ← hz, ← hy]
                have HX4 : Hid (rkL4 K L (j + 1) = rkL4 K L j + bit (y.state != 3)) := by show _ = _; rw [rkL4, ← hz, ← hy]
                obtain ⟨f0, f1⟩ := rkL3_le K x L j
                obtain ⟨f2, f3⟩ := rkL4_le K L j
                obtain ⟨t3, ht3⟩ : ∃ t3, t3 = rkL3 K x L j := ⟨_, rfl⟩
                obtain ⟨t4, ht4⟩ : ∃ t4, t4 = rkL4 K L j := ⟨_, rfl⟩
                rw [← ht3] at HX3 HI8 f0 f1
                rw [← ht4] at HX4 HI8 f2 f3
                clear hz hy ht3 ht4
                obtain ⟨yz, y0, y1, y2, y3⟩ := HI8.out.box
                have hm0 : (0 : Int) ≤ (j : Int) := by omega
                have hm3 : (j : Int) < (L.length : Int) := by omega
                have hm4 : (0 : Int) ≤ (z : Int) := by omega
                have hm5 : (z : Int) < (K.cps.length : Int) := by omega
                go_wp2_with fail
                go_region
                obtain ⟨w8, hw8⟩ : ∃ w8, w8 = (wr.alloc (.cells #[.string y.svc, .int .i64 y.num, .int .i64 y.ver, .int .i64 y.image, .int .i64 y.state, .bool y.ending, .string y.berth] 63)).drew := ⟨_, rfl⟩
                obtain ⟨p8, hp8⟩ : ∃ p8, p8 = wr.heap.size := ⟨_, rfl⟩
                have hb8 : Below wr.heap.size wr w8 := by rw [hw8]; exact Below.drew (blw_alloc (Below.refl _ _) _)
                have HI9 := hid (HI8.out.later hb8)
                have HO9 := hid (owns_later HO8.out hb8)
                have HS9 := hid (HS8.out.later hb8)
                have HC9 : Hid (Box7 w8 p8 (.string y.svc) (.int .i64 y.num) (.int .i64 y.ver) (.int .i64 y.image) (.int .i64 y.state) (.bool y.ending) (.string y.berth)) := by show Box7 _ _ _ _ _ _ _ _ _; rw [hw8]; exact (Box7.new' wr _ _ _ _ _ _ _ _ _ hp8).later (Below.drew (Below.refl _ _))
                have hp8g : w.heap.size + 1 < p8 := by rw [hp8]; exact HI8.out.own.lt
                rw [← hw8, ← hp8]
                clear hw8 hp8 hb8 HI8 HO8 HS8 yz y0 y1 y2 y3 e0 e1 e2 e3 e4 e5 e6 hgc hgl hbl1
                obtain ⟨yz, y0, y1, y2, y3⟩ := HI9.out.box
                obtain ⟨kz, k0', k1', k2', k3', k4', k5', k6'⟩ := HC9.out
                obtain ⟨sz, s0, s1, s2, s3, _, _, _, _, _, _, _, _, _⟩ := HS9.out
                have d3 := HI9.out.d3
                have d4 := HI9.out.d4
                have dz := HI9.out.own.lt
                have hfz := HI9.out.own.frozen
                cases g4 : (y.image == x.image)
                · have g5 : (y.image != x.image) = true := by simp [bne, g4]
                  have go : oldOr K x y = true := by simp [oldOr, g5]
                  by_cases hst : y.state = 3
                  · have q2 : (y.state != 3) = false := by simp [hst]
                    have HG3 : Hid (r.r3 + rkL3 K x L (j + 1) = r.r3 + t3 + 1) := by show _ = _; rw [HX3.out, go]; simp [bit]; omega
                    have HG4 : Hid (r.r4 + rkL4 K L (j + 1) = r.r4 + t4) := by show _ = _; rw [HX4.out, q2]; simp [bit]
                    clear HX3 HX4
                    go_wp2
                    go_roundw
                    case rel =>
                      refine ⟨j + 1, by omega, by go_num, ?_, ?_, ?_⟩
                      · rw [HG3.out, HG4.out]; exact (HI9.out).set3 _
                      · exact owns_sci (HO9.out) (by omega) _ _
                      · exact (HS9.out).sc (by omega) _ _
                    case measure => simp [intOf]; omega
                  · have q2 : (y.state != 3) = true := by simp [hst]
                    have q3 : (y.state == 3) = false := by simpa using hst
                    have HG3 : Hid (r.r3 + rkL3 K x L (j + 1) = r.r3 + t3 + 1) := by show _ = _; rw [HX3.out, go]; simp [bit]; omega
                    have HG4 : Hid (r.r4 + rkL4 K L (j + 1) = r.r4 + t4 + 1) := by show _ = _; rw [HX4.out, q2]; simp [bit]; omega
                    clear HX3 HX4
                    go_wp2
                    go_roundw
                    case rel =>
                      refine ⟨j + 1, by omega, by go_num, ?_, ?_, ?_⟩
                      · rw [HG3.out, HG4.out]; exact ((HI9.out).set3 _).set4 _
                      · exact owns_sci (owns_sci (HO9.out) (by omega) _ _) (by omega) _ _
                      · exact ((HS9.out).sc (by omega) _ _).sc (by omega) _ _
                    case measure => simp [intOf]; omega
                · have g5 : (y.image != x.image) = false := by simp [bne, g4]
                  have go : oldOr K x y = drains K y := by simp [oldOr, g5]
                  go_wp2_with fail
                  refine (l16DrainsS K (some ⟨b, off, none⟩) (some ⟨b1, off1, none⟩) a2 c0 c1 c2 y w8 (HH.out.later HI9.out.below)).mono ?_
                  rintro e w9 ⟨rfl, hb9⟩
                  have HI10 := hid (HI9.out.later hb9)
                  have HS10 := hid (HS9.out.later hb9)
                  have HC10 := hid (HC9.out.later hb9)
                  have HO10 := hid (owns_later HO9.out hb9)
                  clear hb9 HI9 HO9 HS9 HC9 yz y0 y1 y2 y3 kz k0' k1' k2' k3' k4' k5' k6' sz s0 s1 s2 s3 d3 d4 dz hfz
                  obtain ⟨yz, y0, y1, y2, y3⟩ := HI10.out.box
                  obtain ⟨kz, k0', k1', k2', k3', k4', k5', k6'⟩ := HC10.out
                  obtain ⟨sz, s0, s1, s2, s3, _, _, _, _, _, _, _, _, _⟩ := HS10.out
                  have d3 := HI10.out.d3
                  have d4 := HI10.out.d4
                  have dz := HI10.out.own.lt
                  have hfz := HI10.out.own.frozen
                  cases gd : drains K y
                  · rw [gd] at go
                    by_cases hst : y.state = 3
                    · have q2 : (y.state != 3) = false := by simp [hst]
                      have HG3 : Hid (r.r3 + rkL3 K x L (j + 1) = r.r3 + t3) := by show _ = _; rw [HX3.out, go]; simp [bit]
                      have HG4 : Hid (r.r4 + rkL4 K L (j + 1) = r.r4 + t4) := by show _ = _; rw [HX4.out, q2]; simp [bit]
                      clear HX3 HX4
                      go_wp2
                      go_roundw
                      case rel =>
                        refine ⟨j + 1, by omega, by go_num, ?_, ?_, ?_⟩
                        · rw [HG3.out, HG4.out]; exact HI10.out
                        · exact HO10.out
                        · exact HS10.out
                      case measure => simp [intOf]; omega
                    · have q2 : (y.state != 3) = true := by simp [hst]
                      have q3 : (y.state == 3) = false := by simpa using hst
                      have HG3 : Hid (r.r3 + rkL3 K x L (j + 1) = r.r3 + t3) := by show _ = _; rw [HX3.out, go]; simp [bit]
                      have HG4 : Hid (r.r4 + rkL4 K L (j + 1) = r.r4 + t4 + 1) := by show _ = _; rw [HX4.out, q2]; simp [bit]; omega
                      clear HX3 HX4
                      go_wp2
                      go_roundw
                      case rel =>
                        refine ⟨j + 1, by omega, by go_num, ?_, ?_, ?_⟩
                        · rw [HG3.out, HG4.out]; exact (HI10.out).set4 _
                        · exact owns_sci (HO10.out) (by omega) _ _
                        · exact (HS10.out).sc (by omega) _ _
                      case measure => simp [intOf]; omega
                  · rw [gd] at go
                    by_cases hst : y.state = 3
                    · have q2 : (y.state != 3) = false := by simp [hst]
                      have HG3 : Hid (r.r3 + rkL3 K x L (j + 1) = r.r3 + t3 + 1) := by show _ = _; rw [HX3.out, go]; simp [bit]; omega
                      have HG4 : Hid (r.r4 + rkL4 K L (j + 1) = r.r4 + t4) := by show _ = _; rw [HX4.out, q2]; simp [bit]
                      clear HX3 HX4
                      go_wp2
                      go_roundw
                      case rel =>
                        refine ⟨j + 1, by omega, by go_num, ?_, ?_, ?_⟩
                        · rw [HG3.out, HG4.out]; exact (HI10.out).set3 _
                        · exact owns_sci (HO10.out) (by omega) _ _
                        · exact (HS10.out).sc (by omega) _ _
                      case measure => simp [intOf]; omega
                    · have q2 : (y.state != 3) = true := by simp [hst]
                      have q3 : (y.state == 3) = false := by simpa using hst
                      have HG3 : Hid (r.r3 + rkL3 K x L (j + 1) = r.r3 + t3 + 1) := by show _ = _; rw [HX3.out, go]; simp [bit]; omega
                      have HG4 : Hid (r.r4 + rkL4 K L (j + 1) = r.r4 + t4 + 1) := by show _ = _; rw [HX4.out, q2]; simp [bit]; omega
                      clear HX3 HX4
                      go_wp2
                      go_roundw
                      case rel =>
                        refine ⟨j + 1, by omega, by go_num, ?_, ?_, ?_⟩
                        · rw [HG3.out, HG4.out]; exact ((HI10.out).set3 _).set4 _
                        · exact owns_sci (owns_sci (HO10.out) (by omega) _ _) (by omega) _ _
                        · exact ((HS10.out).sc (by omega) _ _).sc (by omega) _ _
                      case measure => simp [intOf]; omega
              · obtain rfl : j = L.length := by omega
                have HFI : Hid (QInv w wr (.int .i64 K.now) (.slice (some ⟨b, off, none⟩) K.svcs.length c0) (.slice a1 K.cps.length c1) (.slice a2 K.bts.length c2) (rkTo K (q + 1)).r0 (rkTo K (q + 1)).r1 (rkTo K (q + 1)).r2 (rkTo K (q + 1)).r3 (rkTo K (q + 1)).r4) := by show QInv _ _ _ _ _ _ _ _ _ _ _; rw [HNG.out]; exact HI8.out
                go_wp2
                go_roundw
                case rel => exact ⟨q + 1, by omega, by go_num, HFI.out⟩
                case measure => simp [intOf]; omega
      · obtain rfl : q = K.svcs.length := by omega
        go_wp2
        go_ret
        rw [HE.out]
        exact ⟨⟨rfl, HI.out.own, HI.out.d0, HI.out.d1, HI.out.d2, HI.out.d3, HI.out.d4⟩, HI.out.below⟩

end Go.Proofs.Ytamhfnlogldpaaa
