/-
  Lists of stewards' books: as they lie in memory; sizes, copies, equality.
-/
import Derived.Test.YtfmcdpgeplkcgaaMemSB
namespace Go.Proofs.Ytfmcdpgeplkcgaa
open Go.RowKit Go.Deep

def SBk.none : SBk := ⟨0, [], [], []⟩
theorem SBkIn.scB {w : World} {b0 b1 b2 B : Nat} {K : SBk} (h : SBkIn w b0 b1 b2 K) (h0 : B < b0) (h1 : B < b1) (h2 : B < b2) (j : Nat) (v : Value) : SBkIn (w.setCell ⟨B, j, none⟩ v) b0 b1 b2 K := ⟨h.l0.sc h0 j v, h.l1.sc h1 j v, h.l2.sc h2 j v⟩
theorem putsB_all {b0 b1 b2 B : Nat} {K : SBk} (h0 : B < b0) (h1 : B < b1) (h2 : B < b2) (o : Nat) : ∀ (vs : List Value) (w : World) (j : Nat), SBkIn w b0 b1 b2 K → SBkIn (puts w B o j vs) b0 b1 b2 K
  | [], _, _, h => h
  | v :: vs, _, j, h => putsB_all h0 h1 h2 o vs _ (j + 1) (h.scB h0 h1 h2 (o + j) v)
theorem SBkIn.putsB {w : World} {b0 b1 b2 B : Nat} {K : SBk} (h : SBkIn w b0 b1 b2 K) (h0 : B < b0) (h1 : B < b1) (h2 : B < b2) (o : Nat) (vs : List Value) : SBkIn (puts w B o 0 vs) b0 b1 b2 K := putsB_all h0 h1 h2 o vs w 0 h
theorem Try.underSBks : Try.prog.underlying 32 = some (.slice 37) := by kernel_rfl

/-- One of 4 cells that was handed in. -/
def SBkC (w : World) (b o : Nat) (r : SBk) : Prop :=
  ∃ v0 v1 v2, w.cell? ⟨b, o, none⟩ = some (.int .i64 r.now) ∧ w.cell? ⟨b, o + 1, none⟩ = some (v0) ∧ w.cell? ⟨b, o + 2, none⟩ = some (v1) ∧ w.cell? ⟨b, o + 3, none⟩ = some (v2) ∧ SBkAt w v0 v1 v2 r

theorem SBkC.later {w w' : World} {b o : Nat} {r : SBk} (h : SBkC w b o r) (hb : Below w.heap.size w w') (hlt : b < w.heap.size) : SBkC w' b o r := by
  obtain ⟨v0, v1, v2, c0, c1, c2, c3, hn⟩ := h
  have q : ∀ j, w'.cell? ⟨b, j, none⟩ = w.cell? ⟨b, j, none⟩ := fun j => hb.cell (p := ⟨b, j, none⟩) hlt
  exact ⟨v0, v1, v2, (q _).trans c0, (q _).trans c1, (q _).trans c2, (q _).trans c3, hn.later hb⟩

def SBksAt (w : World) (v : Value) (rs : List SBk) : Prop :=
  (∃ a cap, v = .slice a 0 cap ∧ rs = []) ∨ ∃ b off cap, v = .slice (some ⟨b, off, none⟩) rs.length cap ∧ b < w.heap.size ∧ rs.length ≤ maxLen ∧ ∀ i, i < rs.length → SBkC w b (off + i * 4) (rs.getD i SBk.none)

theorem SBksAt.later {w w' : World} {v : Value} {rs : List SBk} (h : SBksAt w v rs) (hb : Below w.heap.size w w') : SBksAt w' v rs := by
  rcases h with h | ⟨b, off, cap, rfl, h1, h2, h3⟩
  · exact Or.inl h
  · exact Or.inr ⟨b, off, cap, rfl, Nat.lt_of_lt_of_le h1 hb.size, h2, fun i hi => (h3 i hi).later hb h1⟩


/-- One in the block B of the call's own; its lists behind B. -/
def OwnSBk (w : World) (B o : Nat) (r : SBk) : Prop :=
  ∃ b0 b1 b2, (B < b0 ∧ B < b1 ∧ B < b2) ∧ w.cell? ⟨B, o, none⟩ = some (.int .i64 r.now) ∧ w.cell? ⟨B, o + 1, none⟩ = some (.slice (some ⟨b0, 0, none⟩) r.svcs.length r.svcs.length) ∧ w.cell? ⟨B, o + 2, none⟩ = some (.slice (some ⟨b1, 0, none⟩) r.cps.length r.cps.length) ∧ w.cell? ⟨B, o + 3, none⟩ = some (.slice (some ⟨b2, 0, none⟩) r.bts.length r.bts.length) ∧ SBkIn w b0 b1 b2 r

theorem OwnSBk.later {w w' : World} {b o : Nat} {r : SBk} (h : OwnSBk w b o r) (hb : Below w.heap.size w w') (hlt : b < w.heap.size) : OwnSBk w' b o r := by
  obtain ⟨b0, b1, b2, h0, c0, c1, c2, c3, hn⟩ := h
  have q : ∀ j, w'.cell? ⟨b, j, none⟩ = w.cell? ⟨b, j, none⟩ := fun j => hb.cell (p := ⟨b, j, none⟩) hlt
  exact ⟨b0, b1, b2, h0, (q _).trans c0, (q _).trans c1, (q _).trans c2, (q _).trans c3, hn.later hb⟩

structure SBksIn (w : World) (B : Nat) (rs : List SBk) : Prop where
  lt : B < w.heap.size
  len : rs.length ≤ 1048576
  at_ : ∀ i, i < rs.length → OwnSBk w B (i * 4) (rs.getD i SBk.none)
  own : OwnBlk w B 37 (rs.length * 4)

theorem SBksIn.later {w w' : World} {B : Nat} {rs : List SBk} (h : SBksIn w B rs) (hb : Below w.heap.size w w') : SBksIn w' B rs :=
  ⟨Nat.lt_of_lt_of_le h.lt hb.size, h.len, fun i hi => (h.at_ i hi).later hb h.lt, h.own.later hb⟩

theorem OwnSBk.puts {w : World} {B o : Nat} {r : SBk} (h : OwnSBk w B o r) (o' : Nat) (vs : List Value) (ho : o + 4 ≤ o') : OwnSBk (puts w B o' 0 vs) B o r := by
  obtain ⟨b0, b1, b2, h0, c0, c1, c2, c3, hn⟩ := h
  have c : ∀ j, j < o' → (Ytfmcdpgeplkcgaa.puts w B o' 0 vs).cell? ⟨B, j, none⟩ = w.cell? ⟨B, j, none⟩ := fun j hj => puts_other B o' B j vs w 0 (by omega)
  exact ⟨b0, b1, b2, h0, (c _ (by omega)).trans c0, (c _ (by omega)).trans c1, (c _ (by omega)).trans c2, (c _ (by omega)).trans c3, hn.putsB h0.1 h0.2.1 h0.2.2 o' vs⟩

theorem OwnSBk.sc {w : World} {B o p : Nat} {r : SBk} (h : OwnSBk w B o r) (hp : p < B) (j : Nat) (v : Value) : OwnSBk (w.setCell ⟨p, j, none⟩ v) B o r := by
  obtain ⟨b0, b1, b2, h0, c0, c1, c2, c3, hn⟩ := h
  have c : ∀ q, (w.setCell ⟨p, j, none⟩ v).cell? ⟨B, q, none⟩ = w.cell? ⟨B, q, none⟩ := fun q => sc_ne _ _ _ _ _ _ (by omega)
  have h0 := (show p < b0 ∧ p < b1 ∧ p < b2 by omega)
  exact ⟨b0, b1, b2, by omega, (c _).trans c0, (c _).trans c1, (c _).trans c2, (c _).trans c3, hn.putsB h0.1 h0.2.1 h0.2.2 j [v]⟩

theorem SBksIn.sc {w : World} {B p : Nat} {rs : List SBk} (h : SBksIn w B rs) (hp : p < B) (j : Nat) (v : Value) : SBksIn (w.setCell ⟨p, j, none⟩ v) B rs :=
  ⟨by rw [sc_size]; exact h.lt, h.len, fun i hi => (h.at_ i hi).sc hp j v, h.own.sc_other (by omega) _ _⟩

theorem own_put_sbk {w : World} {B : Nat} {t : TypeId} {n : Nat} (hO : OwnBlk w B t n) (o : Nat) (ho : o + 4 ≤ n) (r : SBk) (b0 b1 b2 : Nat) (h0 : B < b0 ∧ B < b1 ∧ B < b2) (hn : SBkIn w b0 b1 b2 r) :
    OwnSBk (puts w B o 0 [.int .i64 r.now, .slice (some ⟨b0, 0, none⟩) r.svcs.length r.svcs.length, .slice (some ⟨b1, 0, none⟩) r.cps.length r.cps.length, .slice (some ⟨b2, 0, none⟩) r.bts.length r.bts.length]) B o r := by
  have c := fun i hi => puts_at o [.int .i64 r.now, .slice (some ⟨b0, 0, none⟩) r.svcs.length r.svcs.length, .slice (some ⟨b1, 0, none⟩) r.cps.length r.cps.length, .slice (some ⟨b2, 0, none⟩) r.bts.length r.bts.length] w 0 hO (by simp; omega) i hi
  exact ⟨b0, b1, b2, h0, c 0 (by simp), c 1 (by simp), c 2 (by simp), c 3 (by simp), hn.putsB h0.1 h0.2.1 h0.2.2 o _⟩

theorem Try.info37 : (Try.prog.info? 37).map (fun i => (i.zero, i.size, i.bytes)) = some (some (.agg #[.int .i64 0, .slice none 0 0, .slice none 0 0, .slice none 0 0]), 4, 80) := by kernel_rfl

theorem make_sbk (n : Nat) (h : n ≤ 1048576) : ∃ cs : Array Value, cs.size = n * 4 ∧ ∀ W : World,
    (Instr.makeSlice 32 (.int .i64 (n : Int)) (.int .i64 (n : Int))).run Try.prog W = .ok (.slice (some ⟨W.heap.size, 0, none⟩) n n) (W.alloc (.cells cs 37)) := by
  obtain ⟨i, hi, hzz⟩ := Option.map_eq_some_iff.1 Try.info37
  simp only [Prod.mk.injEq] at hzz
  obtain ⟨hz, hs, hb⟩ := hzz
  refine ⟨madeCells (Value.cells (.agg #[.int .i64 0, .slice none 0 0, .slice none 0 0, .slice none 0 0])) (n * 4), size_madeCells _ _, fun W => ?_⟩
  have hr := run_make (P := Try.prog) W 32 37 i _ Try.underSBks hi hz .i64 .i64 n n (by omega) (Int.le_refl _) (by rw [hb]; omega) (by omega)
  simp only [Int.toNat_natCast, hs] at hr
  exact hr

set_option maxHeartbeats 1000000 in
theorem toSBks_row (b off cap : Nat) (rs : List SBk) (w : World) (hl : rs.length ≤ 1048576) (hsm : ∀ r ∈ rs, r.small) (hb : b < w.heap.size)
    (hc : ∀ i, i < rs.length → SBkC w b (off + i * 4) (rs.getD i SBk.none)) :
    Calls Try.prog 12 #[.slice (some ⟨b, off, none⟩) rs.length cap] w fun e w' => e = .returned (.slice (some ⟨w.heap.size, 0, none⟩) rs.length rs.length) ∧ Below w.heap.size w w' ∧ OwnBlk w' w.heap.size 37 (rs.length * 4) ∧
      ∀ i, i < rs.length → OwnSBk w' w.heap.size (i * 4) (rs.getD i SBk.none) := by
  obtain ⟨cs, hcs, hmk⟩ := make_sbk rs.length hl
  have HC : Hid (∀ i, i < rs.length → SBkC w b (off + i * 4) (rs.getD i SBk.none) ∧ (rs.getD i SBk.none).small) := by
    intro i hi
    refine ⟨hc i hi, ?_⟩
    have e : rs.getD i SBk.none = rs[i] := by simp [hi]
    rw [e]
    exact hsm _ (List.getElem_mem hi)
  clear hc hsm
  go_enter Try.func12, Try.ntmps12
  go_wp2
  go_loopw [4] (fun i wr => ∃ k : Nat, k ≤ rs.length ∧ i = .int .i64 k ∧ Below w.heap.size w wr ∧ OwnBlk wr w.heap.size 37 (rs.length * 4) ∧ ∀ i, i < k → OwnSBk wr w.heap.size (i * 4) (rs.getD i SBk.none)) (fun i _ => rs.length - (intOf i).toNat)
  case atStart => exact ⟨0, Nat.zero_le _, rfl, blw_alloc (Below.refl _ _) _, OwnBlk.alloc w cs 37 _ hcs, fun i hi => absurd hi (Nat.not_lt_zero i)⟩
  case round =>
    obtain ⟨k, hk, rfl, hB, hO, hall⟩ := hrel
    have HA : Hid (∀ i, i < k → OwnSBk wr w.heap.size (i * 4) (rs.getD i SBk.none)) := hall
    have HO : Hid (OwnBlk wr w.heap.size 37 (rs.length * 4)) := hO
    clear hall hmk hcs hO
    by_cases hlt : k < rs.length
    · have hf := (HC.out k hlt).1.later hB hb
      obtain ⟨r, hm⟩ : ∃ r, r = rs.getD k SBk.none := ⟨_, rfl⟩
      rw [← hm] at hf
      obtain ⟨v0, v1, v2, c0, c1, c2, c3, hn⟩ := hf
      have HX : Hid ((SBkAt wr v0 v1 v2 r) ∧ r = rs.getD k SBk.none ∧ r.small) := ⟨hn, hm, by rw [hm]; exact (HC.out k hlt).2⟩
      clear hm hn
      go_wp2_with fail
      refine (toSB r v0 v1 v2 wr HX.out.2.2 HX.out.1).mono ?_
      rintro e w2 ⟨⟨b0, b1, b2, rfl, hii, hl0, hl1, hl2⟩, hb2⟩
      have hB2 := blw_trans hB hb2
      have hO2 := HO.out.later hb2
      have HP : Hid (∀ v, v = [.int .i64 r.now, .slice (some ⟨b0, 0, none⟩) r.svcs.length r.svcs.length, .slice (some ⟨b1, 0, none⟩) r.cps.length r.cps.length, .slice (some ⟨b2, 0, none⟩) r.bts.length r.bts.length] →
          Below w.heap.size w (puts w2 w.heap.size (k * 4) 0 v) ∧ OwnBlk (puts w2 w.heap.size (k * 4) 0 v) w.heap.size 37 (rs.length * 4) ∧ ∀ i, i < k + 1 → OwnSBk (puts w2 w.heap.size (k * 4) 0 v) w.heap.size (i * 4) (rs.getD i SBk.none)) := by
        intro v hv
        subst hv
        refine ⟨puts_below (a := w) _ (Nat.le_refl _) _ _ _ hB2, puts_own _ _ _ _ hO2, fun i hi => ?_⟩
        by_cases hik : i < k
        · exact ((HA.out i hik).later hb2 HO.out.lt).puts (k * 4) _ (by omega)
        · obtain rfl : i = k := by omega
          rw [← HX.out.2.1]
          exact own_put_sbk hO2 (i * 4) (by omega) r b0 b1 b2 ⟨Nat.lt_of_lt_of_le HO.out.lt hl0, Nat.lt_of_lt_of_le HO.out.lt hl1, Nat.lt_of_lt_of_le HO.out.lt hl2⟩ hii
      clear c0 c1 c2 c3 HX hii hl0 hl1 hl2
      have hfz := hO2.frozen
      obtain ⟨v0, o0⟩ := hO2.cell (k * 4) (by omega)
      obtain ⟨v1, o1⟩ := hO2.cell (k * 4 + 1) (by omega)
      obtain ⟨v2, o2⟩ := hO2.cell (k * 4 + 2) (by omega)
      obtain ⟨v3, o3⟩ := hO2.cell (k * 4 + 3) (by omega)
      clear hO2 hB2 hb2
      go_wp2
      go_roundw
      case rel => exact ⟨k + 1, by omega, by go_num, (HP.out _ rfl).1, (HP.out _ rfl).2.1, (HP.out _ rfl).2.2⟩
      case measure => simp [intOf]; omega
    · obtain rfl : k = rs.length := by omega
      go_wp2
      go_ret
      exact ⟨rfl, hB, HO.out, HA.out⟩

set_option maxHeartbeats 400000 in
theorem toSBks_nil (a : Option Addr) (cap : Nat) (w : World) :
    Calls Try.prog 12 #[.slice a 0 cap] w fun e w' => e = .returned (.slice (some ⟨w.heap.size, 0, none⟩) 0 0) ∧ ∃ cs : Array Value, cs.size = 0 ∧ w' = w.alloc (.cells cs 37) := by
  obtain ⟨cs, hcs0, hmk0⟩ := make_sbk 0 (by omega)
  have hmk : ∀ W : World, (Instr.makeSlice 32 (.int .i64 0) (.int .i64 0)).run Try.prog W = .ok (.slice (some ⟨W.heap.size, 0, none⟩) 0 0) (W.alloc (.cells cs 37)) := hmk0
  clear hmk0
  go_enter Try.func12, Try.ntmps12
  go_wp2
  refine wp_loop_rounds 1 ?_
  rw [rounds_succ]
  go_wp2
  go_ret
  exact ⟨rfl, _, by omega, rfl⟩

theorem toSBks (v : Value) (rs : List SBk) (w : World) (hl : rs.length ≤ 1048576) (hsm : ∀ r ∈ rs, r.small) (h : SBksAt w v rs) :
    Calls Try.prog 12 #[v] w fun e w' => e = .returned (.slice (some ⟨w.heap.size, 0, none⟩) rs.length rs.length) ∧ Below w.heap.size w w' ∧ SBksIn w' w.heap.size rs := by
  rcases h with ⟨a, cap, rfl, rfl⟩ | ⟨b, off, cap, rfl, hb, _, hc⟩
  · refine (toSBks_nil a cap w).mono ?_
    rintro e w' ⟨rfl, cs, hcs, rfl⟩
    exact ⟨rfl, blw_alloc (Below.refl _ _) _, ⟨by simp, by simp, fun i hi => absurd hi (Nat.not_lt_zero i), OwnBlk.alloc w cs _ _ (by simpa using hcs)⟩⟩
  · refine (toSBks_row b off cap rs w hl hsm hb hc).mono ?_
    rintro e w' ⟨rfl, h1, h2, h3⟩
    exact ⟨rfl, h1, h2.lt, hl, h3, h2⟩

set_option maxHeartbeats 2000000 in
theorem eqSBks (B B' : Nat) (rs : List SBk) (w : World) (h : SBksIn w B rs) (h' : SBksIn w B' rs) :
    Calls Try.prog 16 #[.slice (some ⟨B, 0, none⟩) rs.length rs.length, .slice (some ⟨B', 0, none⟩) rs.length rs.length] w fun e w' => e = .returned (.bool true) ∧ Below w.heap.size w w' := by
  have hl := h.len
  have HH : Hid (SBksIn w B rs ∧ SBksIn w B' rs) := ⟨h, h'⟩
  clear h h'
  go_enter Try.func16, Try.ntmps16
  go_wp2
  go_loopw [5] (fun i wr => ∃ k : Nat, k ≤ rs.length ∧ i = .int .i64 k ∧ Below w.heap.size w wr) (fun i _ => rs.length - (intOf i).toNat)
  case atStart => exact ⟨0, Nat.zero_le _, rfl, Below.refl _ _⟩
  case round =>
    obtain ⟨k, hk, rfl, hW⟩ := hrel
    by_cases hlt : k < rs.length
    · have q := (HH.out.1.later hW).at_ k hlt
      have q' := (HH.out.2.later hW).at_ k hlt
      obtain ⟨r, hm⟩ : ∃ r, r = rs.getD k SBk.none := ⟨_, rfl⟩
      rw [← hm] at q q'
      obtain ⟨b0, b1, b2, _, c0, c1, c2, c3, hn⟩ := q
      obtain ⟨b0', b1', b2', _, d0, d1, d2, d3, hn'⟩ := q'
      have HX : Hid (∀ W, Below wr.heap.size wr W → Calls Try.prog 17 #[.agg #[.int .i64 r.now, .slice (some ⟨b0, 0, none⟩) r.svcs.length r.svcs.length, .slice (some ⟨b1, 0, none⟩) r.cps.length r.cps.length, .slice (some ⟨b2, 0, none⟩) r.bts.length r.bts.length], .agg #[.int .i64 r.now, .slice (some ⟨b0', 0, none⟩) r.svcs.length r.svcs.length, .slice (some ⟨b1', 0, none⟩) r.cps.length r.cps.length, .slice (some ⟨b2', 0, none⟩) r.bts.length r.bts.length]] W fun e w' => e = .returned (.bool true) ∧ Below W.heap.size W w') := fun W hW => eqSB r b0 b1 b2 b0' b1' b2' W (hn.later hW) (hn'.later hW)
      clear hm hn hn'
      go_wp2_with fail
      go_region_with (go_at_call 17; refine (HX.out _ ?_).mono ?_; (repeat (first | exact Below.refl _ _ | refine Below.drew ?_)); rintro e w2 ⟨rfl, hb2⟩)
      all_goals
        go_wp2
        go_roundw
        case rel =>
          refine ⟨k + 1, by omega, by go_num, ?_⟩
          repeat (first | exact blw_trans hW hb2 | exact blw_trans hW.drew hb2 | exact blw_trans hW.drew.drew hb2 | refine Below.drew ?_)
        case measure => simp [intOf]; omega
    · go_wp2
      go_ret
      exact ⟨rfl, hW⟩

theorem small_take_sbkR {rs : List SBk} {k : Nat} (h : ∀ r ∈ rs.take k, r.small) (hk : k < rs.length) (hs : (rs.getD k SBk.none).small) : ∀ r ∈ rs.take (k + 1), r.small := by
  have e : rs.getD k SBk.none = rs[k] := by simp [hk]
  rw [e] at hs
  intro r hr
  rw [List.take_succ_eq_append_getElem hk, List.mem_append, List.mem_singleton] at hr
  rcases hr with hr | rfl
  · exact h r hr
  · exact hs

set_option maxHeartbeats 1000000 in
theorem szSBks_row (b off cap : Nat) (rs : List SBk) (left : Int) (w : World) (h0 : 0 ≤ left) (h1 : left ≤ 1048576) (hb : b < w.heap.size) (hl : rs.length ≤ maxLen)
    (hc : ∀ i, i < rs.length → SBkC w b (off + i * 4) (rs.getD i SBk.none)) :
    Calls Try.prog 9 #[.slice (some ⟨b, off, none⟩) rs.length cap, .int .i64 left] w fun e w' => (∃ x : Int, e = .returned (.int .i64 x) ∧ szP ((rs.length : Int) ≤ left ∧ ∀ r ∈ rs, r.small) left x) ∧ Below w.heap.size w w' := by
  unfold maxLen at hl
  have HC : Hid (∀ i, i < rs.length → SBkC w b (off + i * 4) (rs.getD i SBk.none)) := hc
  obtain ⟨P, hP⟩ : ∃ P : Prop, P = ((rs.length : Int) ≤ left ∧ ∀ r ∈ rs, r.small) := ⟨_, rfl⟩
  have HP : Hid (P = ((rs.length : Int) ≤ left ∧ ∀ r ∈ rs, r.small)) := hP
  rw [← hP]
  clear hc hP
  by_cases hneg : left < (rs.length : Int)
  · go_enter Try.func9, Try.ntmps9
    go_wp2
    go_ret
    exact ⟨⟨_, rfl, by unfold szP; refine ⟨by omega, by omega, fun h => by omega⟩⟩, Below.refl _ _⟩
  · go_enter Try.func9, Try.ntmps9
    go_wp2
    go_loopw [1, 5] (fun l i wr => ∃ (k : Nat) (x : Int), k ≤ rs.length ∧ i = .int .i64 k ∧ l = .int .i64 x ∧ 0 ≤ x ∧ x ≤ left ∧ (∀ r ∈ rs.take k, r.small) ∧ Below w.heap.size w wr) (fun _ i _ => rs.length - (intOf i).toNat)
    case atStart => exact ⟨0, _, Nat.zero_le _, rfl, rfl, by omega, by omega, fun r hr => by simp at hr, Below.refl _ _⟩
    case round =>
      obtain ⟨k, x, hk, rfl, rfl, x0, x1, hsm, hB⟩ := hrel
      have HS : Hid (∀ r ∈ rs.take k, r.small) := hsm
      clear hsm
      by_cases hlt : k < rs.length
      · have hf := (HC.out k hlt).later hB hb
        obtain ⟨r, hm⟩ : ∃ r, r = rs.getD k SBk.none := ⟨_, rfl⟩
        rw [← hm] at hf
        obtain ⟨v0, v1, v2, c0, c1, c2, c3, hn⟩ := hf
        have HM : Hid (r = rs.getD k SBk.none ∧ (SBkAt wr v0 v1 v2 r)) := ⟨hm, hn⟩
        clear hm hn
        go_wp2_with fail
        refine (szSB r v0 v1 v2 x wr x0 (by omega) HM.out.2).mono ?_
        rintro e w2 ⟨⟨x', rfl, hx⟩, hb2⟩
        have HX : Hid (szP (r.small) x x') := hx
        have q1 := hx.1
        have q2 := hx.2.1
        have hB2 := blw_trans hB hb2
        clear hb2 c0 c1 c2 c3 hx
        by_cases c2 : x' < 0
        · go_wp2
          go_ret
          exact ⟨⟨_, rfl, by unfold szP; exact ⟨by omega, by omega, fun h => by omega⟩⟩, hB2⟩
        · have HN : Hid (∀ r ∈ rs.take (k + 1), r.small) := small_take_sbkR HS.out hlt (by rw [← HM.out.1]; exact HX.out.2.2 (by omega))
          go_wp2
          go_roundw
          case rel => exact ⟨k + 1, _, by omega, by go_num, rfl, by omega, by omega, HN.out, hB2⟩
          case measure => simp [intOf]; omega
      · have HQ : Hid P := by
          show P
          rw [HP.out]
          have := HS.out
          rw [List.take_of_length_le (by omega)] at this
          exact ⟨by omega, this⟩
        go_wp2
        go_ret
        exact ⟨⟨_, rfl, by unfold szP; exact ⟨by omega, by omega, fun _ => HQ.out⟩⟩, hB⟩

set_option maxHeartbeats 400000 in
theorem szSBks_nil (a : Option Addr) (cap : Nat) (left : Int) (w : World) (h0 : 0 ≤ left) (h1 : left ≤ 1048576) :
    Calls Try.prog 9 #[.slice a 0 cap, .int .i64 left] w fun e w' => e = .returned (.int .i64 left) ∧ w = w' := by
  go_enter Try.func9, Try.ntmps9
  go_wp2
  refine wp_loop_rounds 1 ?_
  rw [rounds_succ]
  go_wp2
  go_ret
  exact ⟨Pl.ret_int (by omega), rfl⟩

theorem szSBks (v : Value) (rs : List SBk) (left : Int) (w : World) (h0 : 0 ≤ left) (h1 : left ≤ 1048576) (h : SBksAt w v rs) :
    Calls Try.prog 9 #[v, .int .i64 left] w fun e w' => (∃ x : Int, e = .returned (.int .i64 x) ∧ szP ((rs.length : Int) ≤ left ∧ ∀ r ∈ rs, r.small) left x) ∧ Below w.heap.size w w' := by
  rcases h with ⟨a, cap, rfl, rfl⟩ | ⟨b, off, cap, rfl, hb, hl, hc⟩
  · refine (szSBks_nil a cap left w h0 h1).mono ?_
    rintro e w' ⟨rfl, rfl⟩
    exact ⟨⟨_, rfl, by unfold szP; exact ⟨by omega, by omega, fun _ => ⟨by simpa using h0, fun r hr => by simp at hr⟩⟩⟩, Below.refl _ _⟩
  · exact szSBks_row b off cap rs left w h0 h1 hb hl hc


end Go.Proofs.Ytfmcdpgeplkcgaa
