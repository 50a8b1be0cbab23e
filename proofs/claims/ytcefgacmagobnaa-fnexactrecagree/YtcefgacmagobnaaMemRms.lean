/-
  Lists of messages: as they lie in memory; sizes, copies, equality.
-/
import Derived.Test.YtcefgacmagobnaaMemRm
namespace Go.Proofs.Ytcefgacmagobnaa
open Go.RowKit Go.Deep

def Rm.none : Rm := ⟨0, 0, 0, 0, 0, 0, ByteArray.empty, []⟩
theorem RmIn.scB {w : World} {b0 B : Nat} {K : Rm} (h : RmIn w b0 K) (h0 : B < b0) (j : Nat) (v : Value) : RmIn (w.setCell ⟨B, j, none⟩ v) b0 K := ⟨h.l0.sc h0 j v⟩
theorem putsB_Rm {b0 B : Nat} {K : Rm} (h0 : B < b0) (o : Nat) : ∀ (vs : List Value) (w : World) (j : Nat), RmIn w b0 K → RmIn (puts w B o j vs) b0 K
  | [], _, _, h => h
  | v :: vs, _, j, h => putsB_Rm h0 o vs _ (j + 1) (h.scB h0 (o + j) v)
theorem RmIn.putsB {w : World} {b0 B : Nat} {K : Rm} (h : RmIn w b0 K) (h0 : B < b0) (o : Nat) (vs : List Value) : RmIn (puts w B o 0 vs) b0 K := putsB_Rm h0 o vs w 0 h
theorem Try.underRms : Try.prog.underlying 30 = some (.slice 55) := by kernel_rfl

/-- One of 8 cells that was handed in. -/
def RmC (w : World) (b o : Nat) (r : Rm) : Prop :=
  ∃ v0, w.cell? ⟨b, o, none⟩ = some (.int .i64 r.kind) ∧ w.cell? ⟨b, o + 1, none⟩ = some (.int .i64 r.frm) ∧ w.cell? ⟨b, o + 2, none⟩ = some (.int .i64 r.to_) ∧ w.cell? ⟨b, o + 3, none⟩ = some (.int .i64 r.bal) ∧ w.cell? ⟨b, o + 4, none⟩ = some (.int .i64 r.ix) ∧ w.cell? ⟨b, o + 5, none⟩ = some (.int .i64 r.known) ∧ w.cell? ⟨b, o + 6, none⟩ = some (.string r.txt) ∧ w.cell? ⟨b, o + 7, none⟩ = some (v0) ∧ RmAt w v0 r

theorem RmC.later {w w' : World} {b o : Nat} {r : Rm} (h : RmC w b o r) (hb : Below w.heap.size w w') (hlt : b < w.heap.size) : RmC w' b o r := by
  obtain ⟨v0, c0, c1, c2, c3, c4, c5, c6, c7, hn⟩ := h
  have q : ∀ j, w'.cell? ⟨b, j, none⟩ = w.cell? ⟨b, j, none⟩ := fun j => hb.cell (p := ⟨b, j, none⟩) hlt
  exact ⟨v0, (q _).trans c0, (q _).trans c1, (q _).trans c2, (q _).trans c3, (q _).trans c4, (q _).trans c5, (q _).trans c6, (q _).trans c7, hn.later hb⟩

def RmsAt (w : World) (v : Value) (rs : List Rm) : Prop :=
  (∃ a cap, v = .slice a 0 cap ∧ rs = []) ∨ ∃ b off cap, v = .slice (some ⟨b, off, none⟩) rs.length cap ∧ b < w.heap.size ∧ rs.length ≤ maxLen ∧ ∀ i, i < rs.length → RmC w b (off + i * 8) (rs.getD i Rm.none)

theorem RmsAt.later {w w' : World} {v : Value} {rs : List Rm} (h : RmsAt w v rs) (hb : Below w.heap.size w w') : RmsAt w' v rs := by
  rcases h with h | ⟨b, off, cap, rfl, h1, h2, h3⟩
  · exact Or.inl h
  · exact Or.inr ⟨b, off, cap, rfl, Nat.lt_of_lt_of_le h1 hb.size, h2, fun i hi => (h3 i hi).later hb h1⟩


/-- One in the block B of the call's own; its lists behind B. -/
def OwnRm (w : World) (B o : Nat) (r : Rm) : Prop :=
  ∃ b0, (B < b0) ∧ w.cell? ⟨B, o, none⟩ = some (.int .i64 r.kind) ∧ w.cell? ⟨B, o + 1, none⟩ = some (.int .i64 r.frm) ∧ w.cell? ⟨B, o + 2, none⟩ = some (.int .i64 r.to_) ∧ w.cell? ⟨B, o + 3, none⟩ = some (.int .i64 r.bal) ∧ w.cell? ⟨B, o + 4, none⟩ = some (.int .i64 r.ix) ∧ w.cell? ⟨B, o + 5, none⟩ = some (.int .i64 r.known) ∧ w.cell? ⟨B, o + 6, none⟩ = some (.string r.txt) ∧ w.cell? ⟨B, o + 7, none⟩ = some (.slice (some ⟨b0, 0, none⟩) r.slots.length r.slots.length) ∧ RmIn w b0 r

theorem OwnRm.later {w w' : World} {b o : Nat} {r : Rm} (h : OwnRm w b o r) (hb : Below w.heap.size w w') (hlt : b < w.heap.size) : OwnRm w' b o r := by
  obtain ⟨b0, h0, c0, c1, c2, c3, c4, c5, c6, c7, hn⟩ := h
  have q : ∀ j, w'.cell? ⟨b, j, none⟩ = w.cell? ⟨b, j, none⟩ := fun j => hb.cell (p := ⟨b, j, none⟩) hlt
  exact ⟨b0, h0, (q _).trans c0, (q _).trans c1, (q _).trans c2, (q _).trans c3, (q _).trans c4, (q _).trans c5, (q _).trans c6, (q _).trans c7, hn.later hb⟩

structure RmsIn (w : World) (B : Nat) (rs : List Rm) : Prop where
  lt : B < w.heap.size
  len : rs.length ≤ 1048576
  at_ : ∀ i, i < rs.length → OwnRm w B (i * 8) (rs.getD i Rm.none)
  own : OwnBlk w B 55 (rs.length * 8)

theorem RmsIn.later {w w' : World} {B : Nat} {rs : List Rm} (h : RmsIn w B rs) (hb : Below w.heap.size w w') : RmsIn w' B rs :=
  ⟨Nat.lt_of_lt_of_le h.lt hb.size, h.len, fun i hi => (h.at_ i hi).later hb h.lt, h.own.later hb⟩

theorem OwnRm.puts {w : World} {B o : Nat} {r : Rm} (h : OwnRm w B o r) (o' : Nat) (vs : List Value) (ho : o + 8 ≤ o') : OwnRm (puts w B o' 0 vs) B o r := by
  obtain ⟨b0, h0, c0, c1, c2, c3, c4, c5, c6, c7, hn⟩ := h
  have c : ∀ j, j < o' → (Ytcefgacmagobnaa.puts w B o' 0 vs).cell? ⟨B, j, none⟩ = w.cell? ⟨B, j, none⟩ := fun j hj => puts_other B o' B j vs w 0 (by omega)
  exact ⟨b0, h0, (c _ (by omega)).trans c0, (c _ (by omega)).trans c1, (c _ (by omega)).trans c2, (c _ (by omega)).trans c3, (c _ (by omega)).trans c4, (c _ (by omega)).trans c5, (c _ (by omega)).trans c6, (c _ (by omega)).trans c7, hn.putsB h0 o' vs⟩

theorem OwnRm.sc {w : World} {B o p : Nat} {r : Rm} (h : OwnRm w B o r) (hp : p < B) (j : Nat) (v : Value) : OwnRm (w.setCell ⟨p, j, none⟩ v) B o r := by
  obtain ⟨b0, h0, c0, c1, c2, c3, c4, c5, c6, c7, hn⟩ := h
  have c : ∀ q, (w.setCell ⟨p, j, none⟩ v).cell? ⟨B, q, none⟩ = w.cell? ⟨B, q, none⟩ := fun q => sc_ne _ _ _ _ _ _ (by omega)
  have h0 := (show p < b0 by omega)
  exact ⟨b0, by omega, (c _).trans c0, (c _).trans c1, (c _).trans c2, (c _).trans c3, (c _).trans c4, (c _).trans c5, (c _).trans c6, (c _).trans c7, hn.putsB h0 j [v]⟩

theorem RmsIn.sc {w : World} {B p : Nat} {rs : List Rm} (h : RmsIn w B rs) (hp : p < B) (j : Nat) (v : Value) : RmsIn (w.setCell ⟨p, j, none⟩ v) B rs :=
  ⟨by rw [sc_size]; exact h.lt, h.len, fun i hi => (h.at_ i hi).sc hp j v, h.own.sc_other (by omega) _ _⟩

theorem own_put_rm {w : World} {B : Nat} {t : TypeId} {n : Nat} (hO : OwnBlk w B t n) (o : Nat) (ho : o + 8 ≤ n) (r : Rm) (b0 : Nat) (h0 : B < b0) (hn : RmIn w b0 r) :
    OwnRm (puts w B o 0 [.int .i64 r.kind, .int .i64 r.frm, .int .i64 r.to_, .int .i64 r.bal, .int .i64 r.ix, .int .i64 r.known, .string r.txt, .slice (some ⟨b0, 0, none⟩) r.slots.length r.slots.length]) B o r := by
  have c := fun i hi => puts_at o [.int .i64 r.kind, .int .i64 r.frm, .int .i64 r.to_, .int .i64 r.bal, .int .i64 r.ix, .int .i64 r.known, .string r.txt, .slice (some ⟨b0, 0, none⟩) r.slots.length r.slots.length] w 0 hO (by simp; omega) i hi
  exact ⟨b0, h0, c 0 (by simp), c 1 (by simp), c 2 (by simp), c 3 (by simp), c 4 (by simp), c 5 (by simp), c 6 (by simp), c 7 (by simp), hn.putsB h0 o _⟩

theorem Try.info55 : (Try.prog.info? 55).map (fun i => (i.zero, i.size, i.bytes)) = some (some (.agg #[.int .i64 0, .int .i64 0, .int .i64 0, .int .i64 0, .int .i64 0, .int .i64 0, .string ByteArray.empty, .slice none 0 0]), 8, 88) := by kernel_rfl

theorem make_rm (n : Nat) (h : n ≤ 1048576) : ∃ cs : Array Value, cs.size = n * 8 ∧ ∀ W : World,
    (Instr.makeSlice 30 (.int .i64 (n : Int)) (.int .i64 (n : Int))).run Try.prog W = .ok (.slice (some ⟨W.heap.size, 0, none⟩) n n) (W.alloc (.cells cs 55)) := by
  obtain ⟨i, hi, hzz⟩ := Option.map_eq_some_iff.1 Try.info55
  simp only [Prod.mk.injEq] at hzz
  obtain ⟨hz, hs, hb⟩ := hzz
  refine ⟨madeCells (Value.cells (.agg #[.int .i64 0, .int .i64 0, .int .i64 0, .int .i64 0, .int .i64 0, .int .i64 0, .string ByteArray.empty, .slice none 0 0])) (n * 8), size_madeCells _ _, fun W => ?_⟩
  have hr := run_make (P := Try.prog) W 30 55 i _ Try.underRms hi hz .i64 .i64 n n (by omega) (Int.le_refl _) (by rw [hb]; omega) (by omega)
  simp only [Int.toNat_natCast, hs] at hr
  exact hr

set_option maxHeartbeats 1000000 in
theorem toRms_row (b off cap : Nat) (rs : List Rm) (w : World) (hl : rs.length ≤ 1048576) (hsm : ∀ r ∈ rs, r.small) (hb : b < w.heap.size)
    (hc : ∀ i, i < rs.length → RmC w b (off + i * 8) (rs.getD i Rm.none)) :
    Calls Try.prog 22 #[.slice (some ⟨b, off, none⟩) rs.length cap] w fun e w' => e = .returned (.slice (some ⟨w.heap.size, 0, none⟩) rs.length rs.length) ∧ Below w.heap.size w w' ∧ OwnBlk w' w.heap.size 55 (rs.length * 8) ∧
      ∀ i, i < rs.length → OwnRm w' w.heap.size (i * 8) (rs.getD i Rm.none) := by
  obtain ⟨cs, hcs, hmk⟩ := make_rm rs.length hl
  have HC : Hid (∀ i, i < rs.length → RmC w b (off + i * 8) (rs.getD i Rm.none) ∧ (rs.getD i Rm.none).small) := by
    intro i hi
    refine ⟨hc i hi, ?_⟩
    have e : rs.getD i Rm.none = rs[i] := by simp [hi]
    rw [e]
    exact hsm _ (List.getElem_mem hi)
  clear hc hsm
  go_enter Try.func22, Try.ntmps22
  go_wp2
  go_loopw [4] (fun i wr => ∃ k : Nat, k ≤ rs.length ∧ i = .int .i64 k ∧ Below w.heap.size w wr ∧ OwnBlk wr w.heap.size 55 (rs.length * 8) ∧ ∀ i, i < k → OwnRm wr w.heap.size (i * 8) (rs.getD i Rm.none)) (fun i _ => rs.length - (intOf i).toNat)
  case atStart => exact ⟨0, Nat.zero_le _, rfl, blw_alloc (Below.refl _ _) _, OwnBlk.alloc w cs 55 _ hcs, fun i hi => absurd hi (Nat.not_lt_zero i)⟩
  case round =>
    obtain ⟨k, hk, rfl, hB, hO, hall⟩ := hrel
    have HA : Hid (∀ i, i < k → OwnRm wr w.heap.size (i * 8) (rs.getD i Rm.none)) := hall
    have HO : Hid (OwnBlk wr w.heap.size 55 (rs.length * 8)) := hO
    clear hall hmk hcs hO
    by_cases hlt : k < rs.length
    · have hf := (HC.out k hlt).1.later hB hb
      obtain ⟨r, hm⟩ : ∃ r, r = rs.getD k Rm.none := ⟨_, rfl⟩
      rw [← hm] at hf
      obtain ⟨v0, c0, c1, c2, c3, c4, c5, c6, c7, hn⟩ := hf
      have HX : Hid ((RmAt wr v0 r) ∧ r = rs.getD k Rm.none ∧ r.small) := ⟨hn, hm, by rw [hm]; exact (HC.out k hlt).2⟩
      clear hm hn
      go_wp2_with fail
      refine (toRM r v0 wr HX.out.2.2 HX.out.1).mono ?_
      rintro e w2 ⟨⟨b0, rfl, hii, hl0⟩, hb2⟩
      have hB2 := blw_trans hB hb2
      have hO2 := HO.out.later hb2
      have HP : Hid (∀ v, v = [.int .i64 r.kind, .int .i64 r.frm, .int .i64 r.to_, .int .i64 r.bal, .int .i64 r.ix, .int .i64 r.known, .string r.txt, .slice (some ⟨b0, 0, none⟩) r.slots.length r.slots.length] →
          Below w.heap.size w (puts w2 w.heap.size (k * 8) 0 v) ∧ OwnBlk (puts w2 w.heap.size (k * 8) 0 v) w.heap.size 55 (rs.length * 8) ∧ ∀ i, i < k + 1 → OwnRm (puts w2 w.heap.size (k * 8) 0 v) w.heap.size (i * 8) (rs.getD i Rm.none)) := by
        intro v hv
        subst hv
        refine ⟨puts_below (a := w) _ (Nat.le_refl _) _ _ _ hB2, puts_own _ _ _ _ hO2, fun i hi => ?_⟩
        by_cases hik : i < k
        · exact ((HA.out i hik).later hb2 HO.out.lt).puts (k * 8) _ (by omega)
        · obtain rfl : i = k := by omega
          rw [← HX.out.2.1]
          exact own_put_rm hO2 (i * 8) (by omega) r b0 (Nat.lt_of_lt_of_le HO.out.lt hl0) hii
      clear c0 c1 c2 c3 c4 c5 c6 c7 HX hii hl0
      have hfz := hO2.frozen
      obtain ⟨v0, o0⟩ := hO2.cell (k * 8) (by omega)
      obtain ⟨v1, o1⟩ := hO2.cell (k * 8 + 1) (by omega)
      obtain ⟨v2, o2⟩ := hO2.cell (k * 8 + 2) (by omega)
      obtain ⟨v3, o3⟩ := hO2.cell (k * 8 + 3) (by omega)
      obtain ⟨v4, o4⟩ := hO2.cell (k * 8 + 4) (by omega)
      obtain ⟨v5, o5⟩ := hO2.cell (k * 8 + 5) (by omega)
      obtain ⟨v6, o6⟩ := hO2.cell (k * 8 + 6) (by omega)
      obtain ⟨v7, o7⟩ := hO2.cell (k * 8 + 7) (by omega)
      clear hO2 hB2 hb2
      go_wp2
      go_roundw
      case rel => exact ⟨k + 1, by omega, by go_num, (HP.out _ rfl).1, (HP.out _ rfl).2.1, (HP.out _ rfl).2.2⟩
      case measure => simp [intOf]; omega
    · obtain rfl : k = rs.length := by omega
      go_wp2
      go_ret
      exact ⟨rfl, hB, HO.out, HA.out⟩

set_option maxHeartbeats 400000 in
theorem toRms_nil (a : Option Addr) (cap : Nat) (w : World) :
    Calls Try.prog 22 #[.slice a 0 cap] w fun e w' => e = .returned (.slice (some ⟨w.heap.size, 0, none⟩) 0 0) ∧ ∃ cs : Array Value, cs.size = 0 ∧ w' = w.alloc (.cells cs 55) := by
  obtain ⟨cs, hcs0, hmk0⟩ := make_rm 0 (by omega)
  have hmk : ∀ W : World, (Instr.makeSlice 30 (.int .i64 0) (.int .i64 0)).run Try.prog W = .ok (.slice (some ⟨W.heap.size, 0, none⟩) 0 0) (W.alloc (.cells cs 55)) := hmk0
  clear hmk0
  go_enter Try.func22, Try.ntmps22
  go_wp2
  refine wp_loop_rounds 1 ?_
  rw [rounds_succ]
  go_wp2
  go_ret
  exact ⟨rfl, _, by omega, rfl⟩

theorem toRms (v : Value) (rs : List Rm) (w : World) (hl : rs.length ≤ 1048576) (hsm : ∀ r ∈ rs, r.small) (h : RmsAt w v rs) :
    Calls Try.prog 22 #[v] w fun e w' => e = .returned (.slice (some ⟨w.heap.size, 0, none⟩) rs.length rs.length) ∧ Below w.heap.size w w' ∧ RmsIn w' w.heap.size rs := by
  rcases h with ⟨a, cap, rfl, rfl⟩ | ⟨b, off, cap, rfl, hb, _, hc⟩
  · refine (toRms_nil a cap w).mono ?_
    rintro e w' ⟨rfl, cs, hcs, rfl⟩
    exact ⟨rfl, blw_alloc (Below.refl _ _) _, ⟨by simp, by simp, fun i hi => absurd hi (Nat.not_lt_zero i), OwnBlk.alloc w cs _ _ (by simpa using hcs)⟩⟩
  · refine (toRms_row b off cap rs w hl hsm hb hc).mono ?_
    rintro e w' ⟨rfl, h1, h2, h3⟩
    exact ⟨rfl, h1, h2.lt, hl, h3, h2⟩

set_option maxHeartbeats 2000000 in
theorem eqRms (B B' : Nat) (rs : List Rm) (w : World) (h : RmsIn w B rs) (h' : RmsIn w B' rs) :
    Calls Try.prog 31 #[.slice (some ⟨B, 0, none⟩) rs.length rs.length, .slice (some ⟨B', 0, none⟩) rs.length rs.length] w fun e w' => e = .returned (.bool true) ∧ Below w.heap.size w w' := by
  have hl := h.len
  have HH : Hid (RmsIn w B rs ∧ RmsIn w B' rs) := ⟨h, h'⟩
  clear h h'
  go_enter Try.func31, Try.ntmps31
  go_wp2
  go_loopw [5] (fun i wr => ∃ k : Nat, k ≤ rs.length ∧ i = .int .i64 k ∧ Below w.heap.size w wr) (fun i _ => rs.length - (intOf i).toNat)
  case atStart => exact ⟨0, Nat.zero_le _, rfl, Below.refl _ _⟩
  case round =>
    obtain ⟨k, hk, rfl, hW⟩ := hrel
    by_cases hlt : k < rs.length
    · have q := (HH.out.1.later hW).at_ k hlt
      have q' := (HH.out.2.later hW).at_ k hlt
      obtain ⟨r, hm⟩ : ∃ r, r = rs.getD k Rm.none := ⟨_, rfl⟩
      rw [← hm] at q q'
      obtain ⟨b0, _, c0, c1, c2, c3, c4, c5, c6, c7, hn⟩ := q
      obtain ⟨b0', _, d0, d1, d2, d3, d4, d5, d6, d7, hn'⟩ := q'
      have HX : Hid (∀ W, Below wr.heap.size wr W → Calls Try.prog 65 #[.agg #[.int .i64 r.kind, .int .i64 r.frm, .int .i64 r.to_, .int .i64 r.bal, .int .i64 r.ix, .int .i64 r.known, .string r.txt, .slice (some ⟨b0, 0, none⟩) r.slots.length r.slots.length], .agg #[.int .i64 r.kind, .int .i64 r.frm, .int .i64 r.to_, .int .i64 r.bal, .int .i64 r.ix, .int .i64 r.known, .string r.txt, .slice (some ⟨b0', 0, none⟩) r.slots.length r.slots.length]] W fun e w' => e = .returned (.bool true) ∧ Below W.heap.size W w') := fun W hW => eqRM r b0 b0' W (hn.later hW) (hn'.later hW)
      clear hm hn hn'
      go_wp2_with fail
      go_region_with (go_at_call 65; refine (HX.out _ ?_).mono ?_; (repeat (first | exact Below.refl _ _ | refine Below.drew ?_)); rintro e w2 ⟨rfl, hb2⟩)
      all_goals
        go_wp2
        go_roundw
        case rel =>
          refine ⟨k + 1, by omega, by go_num, ?_⟩
          repeat (first | exact blw_trans hW hb2 | exact blw_trans hW.drew hb2 | exact blw_trans hW.drew.drew hb2 | refine Below.drew ?_)
        case measure => simp [intOf]; omega
    · go_wp2
      go_ret
      exact ⟨rfl, hW⟩

theorem small_take_rmR {rs : List Rm} {k : Nat} (h : ∀ r ∈ rs.take k, r.small) (hk : k < rs.length) (hs : (rs.getD k Rm.none).small) : ∀ r ∈ rs.take (k + 1), r.small := by
  have e : rs.getD k Rm.none = rs[k] := by simp [hk]
  rw [e] at hs
  intro r hr
  rw [List.take_succ_eq_append_getElem hk, List.mem_append, List.mem_singleton] at hr
  rcases hr with hr | rfl
  · exact h r hr
  · exact hs

set_option maxHeartbeats 1000000 in
theorem szRms_row (b off cap : Nat) (rs : List Rm) (left : Int) (w : World) (h0 : 0 ≤ left) (h1 : left ≤ 1048576) (hb : b < w.heap.size) (hl : rs.length ≤ maxLen)
    (hc : ∀ i, i < rs.length → RmC w b (off + i * 8) (rs.getD i Rm.none)) :
    Calls Try.prog 16 #[.slice (some ⟨b, off, none⟩) rs.length cap, .int .i64 left] w fun e w' => (∃ x : Int, e = .returned (.int .i64 x) ∧ szP ((rs.length : Int) ≤ left ∧ ∀ r ∈ rs, r.small) left x) ∧ Below w.heap.size w w' := by
  unfold maxLen at hl
  have HC : Hid (∀ i, i < rs.length → RmC w b (off + i * 8) (rs.getD i Rm.none)) := hc
  obtain ⟨P, hP⟩ : ∃ P : Prop, P = ((rs.length : Int) ≤ left ∧ ∀ r ∈ rs, r.small) := ⟨_, rfl⟩
  have HP : Hid (P = ((rs.length : Int) ≤ left ∧ ∀ r ∈ rs, r.small)) := hP
  rw [← hP]
  clear hc hP
  by_cases hneg : left < (rs.length : Int)
  · go_enter Try.func16, Try.ntmps16
    go_wp2
    go_ret
    exact ⟨⟨_, rfl, by unfold szP; refine ⟨by omega, by omega, fun h => by omega⟩⟩, Below.refl _ _⟩
  · go_enter Try.func16, Try.ntmps16
    go_wp2
    go_loopw [1, 5] (fun l i wr => ∃ (k : Nat) (x : Int), k ≤ rs.length ∧ i = .int .i64 k ∧ l = .int .i64 x ∧ 0 ≤ x ∧ x ≤ left ∧ (∀ r ∈ rs.take k, r.small) ∧ Below w.heap.size w wr) (fun _ i _ => rs.length - (intOf i).toNat)
    case atStart => exact ⟨0, _, Nat.zero_le _, rfl, rfl, by omega, by omega, fun r hr => by simp at hr, Below.refl _ _⟩
    case round =>
      obtain ⟨k, x, hk, rfl, rfl, x0, x1, hsm, hB⟩ := hrel
      have HS : Hid (∀ r ∈ rs.take k, r.small) := hsm
      clear hsm
      by_cases hlt : k < rs.length
      · have hf := (HC.out k hlt).later hB hb
        obtain ⟨r, hm⟩ : ∃ r, r = rs.getD k Rm.none := ⟨_, rfl⟩
        rw [← hm] at hf
        obtain ⟨v0, c0, c1, c2, c3, c4, c5, c6, c7, hn⟩ := hf
        have HM : Hid (r = rs.getD k Rm.none ∧ (RmAt wr v0 r)) := ⟨hm, hn⟩
        clear hm hn
        go_wp2_with fail
        refine (szRM r v0 x wr x0 (by omega) HM.out.2).mono ?_
        rintro e w2 ⟨⟨x', rfl, hx⟩, hb2⟩
        have HX : Hid (szP (r.small) x x') := hx
        have q1 := hx.1
        have q2 := hx.2.1
        have hB2 := blw_trans hB hb2
        clear hb2 c0 c1 c2 c3 c4 c5 c6 c7 hx
        by_cases c2 : x' < 0
        · go_wp2
          go_ret
          exact ⟨⟨_, rfl, by unfold szP; exact ⟨by omega, by omega, fun h => by omega⟩⟩, hB2⟩
        · have HN : Hid (∀ r ∈ rs.take (k + 1), r.small) := small_take_rmR HS.out hlt (by rw [← HM.out.1]; exact HX.out.2.2 (by omega))
          go_wp2
          go_roundw
          case rel => exact ⟨k + 1, _, by omega, by go_num, rfl, by omega, by omega, HN.out, hB2⟩
          case measure => simp [intOf]; omega
      · have HQ : Hid P := by
          show P
          rw [HP.out]
          have := HS.out
          rw [List.take_of_length_le (by omega)] at this
          exact ⟨by omega, this⟩
        go_wp2
        go_ret
        exact ⟨⟨_, rfl, by unfold szP; exact ⟨by omega, by omega, fun _ => HQ.out⟩⟩, hB⟩

set_option maxHeartbeats 400000 in
theorem szRms_nil (a : Option Addr) (cap : Nat) (left : Int) (w : World) (h0 : 0 ≤ left) (h1 : left ≤ 1048576) :
    Calls Try.prog 16 #[.slice a 0 cap, .int .i64 left] w fun e w' => e = .returned (.int .i64 left) ∧ w = w' := by
  go_enter Try.func16, Try.ntmps16
  go_wp2
  refine wp_loop_rounds 1 ?_
  rw [rounds_succ]
  go_wp2
  go_ret
  exact ⟨Pl.ret_int (by omega), rfl⟩

theorem szRms (v : Value) (rs : List Rm) (left : Int) (w : World) (h0 : 0 ≤ left) (h1 : left ≤ 1048576) (h : RmsAt w v rs) :
    Calls Try.prog 16 #[v, .int .i64 left] w fun e w' => (∃ x : Int, e = .returned (.int .i64 x) ∧ szP ((rs.length : Int) ≤ left ∧ ∀ r ∈ rs, r.small) left x) ∧ Below w.heap.size w w' := by
  rcases h with ⟨a, cap, rfl, rfl⟩ | ⟨b, off, cap, rfl, hb, hl, hc⟩
  · refine (szRms_nil a cap left w h0 h1).mono ?_
    rintro e w' ⟨rfl, rfl⟩
    exact ⟨⟨_, rfl, by unfold szP; exact ⟨by omega, by omega, fun _ => ⟨by simpa using h0, fun r hr => by simp at hr⟩⟩⟩, Below.refl _ _⟩
  · exact szRms_row b off cap rs left w h0 h1 hb hl hc


end Go.Proofs.Ytcefgacmagobnaa
