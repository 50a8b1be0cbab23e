/-
  Lists of objects: as they lie in memory; sizes, copies, equality.
-/
import Derived.Test.YtliaibdbcaglnaaMemO
import Derived.Test.YtliaibdbcaglnaaWalkTB
namespace Go.Proofs.Ytliaibdbcaglnaa
open Go.RowKit Go.Deep

def Ob.none : Ob := ⟨ByteArray.empty, ByteArray.empty, ByteArray.empty, [], false, [], 0⟩

theorem ObIn.putsB {w : World} {b1 b2 B : Nat} {o : Ob} (h : ObIn w b1 b2 o) (h1 : B < b1) (h2 : B < b2) (o' : Nat) (vs : List Value) : ObIn (puts w B o' 0 vs) b1 b2 o :=
  ⟨⟨by rw [puts_size]; exact h.arg.lt1, by rw [puts_size]; exact h.arg.lt2, h.arg.len1, h.arg.len2, fun i hi => (puts_other B o' b1 i vs w 0 (Or.inl (by omega))).trans (h.arg.at1 i hi), fun i hi => (puts_other B o' b2 i vs w 0 (Or.inl (by omega))).trans (h.arg.at2 i hi)⟩, h.z1, h.z2, h.sized⟩

/-- One of 7 cells that was handed in. -/
def ObC (w : World) (b o : Nat) (r : Ob) : Prop :=
  ∃ v1 v2, w.cell? ⟨b, o, none⟩ = some (.string r.kind) ∧ w.cell? ⟨b, o + 1, none⟩ = some (.string r.name) ∧ w.cell? ⟨b, o + 2, none⟩ = some (.string r.team) ∧ w.cell? ⟨b, o + 3, none⟩ = some (v1) ∧ w.cell? ⟨b, o + 4, none⟩ = some (.bool r.ending) ∧ w.cell? ⟨b, o + 5, none⟩ = some (v2) ∧ w.cell? ⟨b, o + 6, none⟩ = some (.int .i64 r.version) ∧ ObAt w v1 v2 r

theorem ObC.later {w w' : World} {b o : Nat} {r : Ob} (h : ObC w b o r) (hb : Below w.heap.size w w') (hlt : b < w.heap.size) : ObC w' b o r := by
  obtain ⟨v1, v2, c0, c1, c2, c3, c4, c5, c6, hn⟩ := h
  have q : ∀ j, w'.cell? ⟨b, j, none⟩ = w.cell? ⟨b, j, none⟩ := fun j => hb.cell (p := ⟨b, j, none⟩) hlt
  exact ⟨v1, v2, (q _).trans c0, (q _).trans c1, (q _).trans c2, (q _).trans c3, (q _).trans c4, (q _).trans c5, (q _).trans c6, hn.later hb⟩

def ObsAt (w : World) (v : Value) (rs : List Ob) : Prop :=
  (∃ a cap, v = .slice a 0 cap ∧ rs = []) ∨ ∃ b off cap, v = .slice (some ⟨b, off, none⟩) rs.length cap ∧ b < w.heap.size ∧ rs.length ≤ maxLen ∧ ∀ i, i < rs.length → ObC w b (off + i * 7) (rs.getD i Ob.none)

theorem ObsAt.later {w w' : World} {v : Value} {rs : List Ob} (h : ObsAt w v rs) (hb : Below w.heap.size w w') : ObsAt w' v rs := by
  rcases h with h | ⟨b, off, cap, rfl, h1, h2, h3⟩
  · exact Or.inl h
  · exact Or.inr ⟨b, off, cap, rfl, Nat.lt_of_lt_of_le h1 hb.size, h2, fun i hi => (h3 i hi).later hb h1⟩

def Ob.small (r : Ob) : Prop := r.values.length ≤ 1048576 ∧ r.holds.length ≤ 1048576

/-- One in the block B of the call's own; its lists behind B. -/
def OwnOb (w : World) (B o : Nat) (r : Ob) : Prop :=
  ∃ b1 b2, (B < b1 ∧ B < b2) ∧ w.cell? ⟨B, o, none⟩ = some (.string r.kind) ∧ w.cell? ⟨B, o + 1, none⟩ = some (.string r.name) ∧ w.cell? ⟨B, o + 2, none⟩ = some (.string r.team) ∧ w.cell? ⟨B, o + 3, none⟩ = some (.slice (some ⟨b1, 0, none⟩) r.values.length r.values.length) ∧ w.cell? ⟨B, o + 4, none⟩ = some (.bool r.ending) ∧ w.cell? ⟨B, o + 5, none⟩ = some (.slice (some ⟨b2, 0, none⟩) r.holds.length r.holds.length) ∧ w.cell? ⟨B, o + 6, none⟩ = some (.int .i64 r.version) ∧ ObIn w b1 b2 r

theorem OwnOb.later {w w' : World} {b o : Nat} {r : Ob} (h : OwnOb w b o r) (hb : Below w.heap.size w w') (hlt : b < w.heap.size) : OwnOb w' b o r := by
  obtain ⟨b1, b2, h0, c0, c1, c2, c3, c4, c5, c6, hn⟩ := h
  have q : ∀ j, w'.cell? ⟨b, j, none⟩ = w.cell? ⟨b, j, none⟩ := fun j => hb.cell (p := ⟨b, j, none⟩) hlt
  exact ⟨b1, b2, h0, (q _).trans c0, (q _).trans c1, (q _).trans c2, (q _).trans c3, (q _).trans c4, (q _).trans c5, (q _).trans c6, hn.later hb⟩

structure ObsIn (w : World) (B : Nat) (rs : List Ob) : Prop where
  lt : B < w.heap.size
  len : rs.length ≤ 1048576
  at_ : ∀ i, i < rs.length → OwnOb w B (i * 7) (rs.getD i Ob.none)
  own : OwnBlk w B 39 (rs.length * 7)

theorem ObsIn.later {w w' : World} {B : Nat} {rs : List Ob} (h : ObsIn w B rs) (hb : Below w.heap.size w w') : ObsIn w' B rs :=
  ⟨Nat.lt_of_lt_of_le h.lt hb.size, h.len, fun i hi => (h.at_ i hi).later hb h.lt, h.own.later hb⟩

theorem OwnOb.puts {w : World} {B o : Nat} {r : Ob} (h : OwnOb w B o r) (o' : Nat) (vs : List Value) (ho : o + 7 ≤ o') : OwnOb (puts w B o' 0 vs) B o r := by
  obtain ⟨b1, b2, h0, c0, c1, c2, c3, c4, c5, c6, hn⟩ := h
  have c : ∀ j, j < o' → (Ytliaibdbcaglnaa.puts w B o' 0 vs).cell? ⟨B, j, none⟩ = w.cell? ⟨B, j, none⟩ := fun j hj => puts_other B o' B j vs w 0 (by omega)
  exact ⟨b1, b2, h0, (c _ (by omega)).trans c0, (c _ (by omega)).trans c1, (c _ (by omega)).trans c2, (c _ (by omega)).trans c3, (c _ (by omega)).trans c4, (c _ (by omega)).trans c5, (c _ (by omega)).trans c6, hn.putsB h0.1 h0.2 o' vs⟩

theorem OwnOb.sc {w : World} {B o p : Nat} {r : Ob} (h : OwnOb w B o r) (hp : p < B) (j : Nat) (v : Value) : OwnOb (w.setCell ⟨p, j, none⟩ v) B o r := by
  obtain ⟨b1, b2, h0, c0, c1, c2, c3, c4, c5, c6, hn⟩ := h
  have c : ∀ q, (w.setCell ⟨p, j, none⟩ v).cell? ⟨B, q, none⟩ = w.cell? ⟨B, q, none⟩ := fun q => sc_ne _ _ _ _ _ _ (by omega)
  have h0 := (show p < b1 ∧ p < b2 by omega)
  exact ⟨b1, b2, by omega, (c _).trans c0, (c _).trans c1, (c _).trans c2, (c _).trans c3, (c _).trans c4, (c _).trans c5, (c _).trans c6, hn.putsB h0.1 h0.2 j [v]⟩

theorem ObsIn.sc {w : World} {B p : Nat} {rs : List Ob} (h : ObsIn w B rs) (hp : p < B) (j : Nat) (v : Value) : ObsIn (w.setCell ⟨p, j, none⟩ v) B rs :=
  ⟨by rw [sc_size]; exact h.lt, h.len, fun i hi => (h.at_ i hi).sc hp j v, h.own.sc_other (by omega) _ _⟩

theorem own_put_ob {w : World} {B : Nat} {t : TypeId} {n : Nat} (hO : OwnBlk w B t n) (o : Nat) (ho : o + 7 ≤ n) (r : Ob) (b1 b2 : Nat) (h0 : B < b1 ∧ B < b2) (hn : ObIn w b1 b2 r) :
    OwnOb (puts w B o 0 [.string r.kind, .string r.name, .string r.team, .slice (some ⟨b1, 0, none⟩) r.values.length r.values.length, .bool r.ending, .slice (some ⟨b2, 0, none⟩) r.holds.length r.holds.length, .int .i64 r.version]) B o r := by
  have c := fun i hi => puts_at o [.string r.kind, .string r.name, .string r.team, .slice (some ⟨b1, 0, none⟩) r.values.length r.values.length, .bool r.ending, .slice (some ⟨b2, 0, none⟩) r.holds.length r.holds.length, .int .i64 r.version] w 0 hO (by simp; omega) i hi
  exact ⟨b1, b2, h0, c 0 (by simp), c 1 (by simp), c 2 (by simp), c 3 (by simp), c 4 (by simp), c 5 (by simp), c 6 (by simp), hn.putsB h0.1 h0.2 o _⟩

theorem Try.info39 : (Try.prog.info? 39).map (fun i => (i.zero, i.size, i.bytes)) = some (some (.agg #[.string ByteArray.empty, .string ByteArray.empty, .string ByteArray.empty, .slice none 0 0, .bool false, .slice none 0 0, .int .i64 0]), 7, 112) := by kernel_rfl

theorem make_ob (n : Nat) (h : n ≤ 1048576) : ∃ cs : Array Value, cs.size = n * 7 ∧ ∀ W : World,
    (Instr.makeSlice 52 (.int .i64 (n : Int)) (.int .i64 (n : Int))).run Try.prog W = .ok (.slice (some ⟨W.heap.size, 0, none⟩) n n) (W.alloc (.cells cs 39)) := by
  obtain ⟨i, hi, hzz⟩ := Option.map_eq_some_iff.1 Try.info39
  simp only [Prod.mk.injEq] at hzz
  obtain ⟨hz, hs, hb⟩ := hzz
  refine ⟨madeCells (Value.cells (.agg #[.string ByteArray.empty, .string ByteArray.empty, .string ByteArray.empty, .slice none 0 0, .bool false, .slice none 0 0, .int .i64 0])) (n * 7), size_madeCells _ _, fun W => ?_⟩
  have hr := run_make (P := Try.prog) W 52 39 i _ Try.underlying52 hi hz .i64 .i64 n n (by omega) (Int.le_refl _) (by rw [hb]; omega) (by omega)
  simp only [Int.toNat_natCast, hs] at hr
  exact hr

set_option maxHeartbeats 1000000 in
theorem toObs_row (b off cap : Nat) (rs : List Ob) (w : World) (hl : rs.length ≤ 1048576) (hsm : ∀ r ∈ rs, r.small) (hb : b < w.heap.size)
    (hc : ∀ i, i < rs.length → ObC w b (off + i * 7) (rs.getD i Ob.none)) :
    Calls Try.prog 39 #[.slice (some ⟨b, off, none⟩) rs.length cap] w fun e w' => e = .returned (.slice (some ⟨w.heap.size, 0, none⟩) rs.length rs.length) ∧ Below w.heap.size w w' ∧ OwnBlk w' w.heap.size 39 (rs.length * 7) ∧
      ∀ i, i < rs.length → OwnOb w' w.heap.size (i * 7) (rs.getD i Ob.none) := by
  obtain ⟨cs, hcs, hmk⟩ := make_ob rs.length hl
  have HC : Hid (∀ i, i < rs.length → ObC w b (off + i * 7) (rs.getD i Ob.none) ∧ (rs.getD i Ob.none).small) := by
    intro i hi
    refine ⟨hc i hi, ?_⟩
    have e : rs.getD i Ob.none = rs[i] := by simp [hi]
    rw [e]
    exact hsm _ (List.getElem_mem hi)
  clear hc hsm
  go_enter Try.func39, Try.ntmps39
  go_wp2
  go_loopw [4] (fun i wr => ∃ k : Nat, k ≤ rs.length ∧ i = .int .i64 k ∧ Below w.heap.size w wr ∧ OwnBlk wr w.heap.size 39 (rs.length * 7) ∧ ∀ i, i < k → OwnOb wr w.heap.size (i * 7) (rs.getD i Ob.none)) (fun i _ => rs.length - (intOf i).toNat)
  case atStart => exact ⟨0, Nat.zero_le _, rfl, blw_alloc (Below.refl _ _) _, OwnBlk.alloc w cs 39 _ hcs, fun i hi => absurd hi (Nat.not_lt_zero i)⟩
  case round =>
    obtain ⟨k, hk, rfl, hB, hO, hall⟩ := hrel
    have HA : Hid (∀ i, i < k → OwnOb wr w.heap.size (i * 7) (rs.getD i Ob.none)) := hall
    have HO : Hid (OwnBlk wr w.heap.size 39 (rs.length * 7)) := hO
    clear hall hmk hcs hO
    by_cases hlt : k < rs.length
    · have hf := (HC.out k hlt).1.later hB hb
      obtain ⟨r, hm⟩ : ∃ r, r = rs.getD k Ob.none := ⟨_, rfl⟩
      rw [← hm] at hf
      obtain ⟨v1, v2, c0, c1, c2, c3, c4, c5, c6, hn⟩ := hf
      have HX : Hid ((ObAt wr v1 v2 r) ∧ r = rs.getD k Ob.none ∧ r.small) := ⟨hn, hm, by rw [hm]; exact (HC.out k hlt).2⟩
      clear hm hn
      go_wp2_with fail
      refine (toObj r v1 v2 wr HX.out.2.2.1 HX.out.2.2.2 HX.out.1.t1 HX.out.1.t2).mono ?_
      rintro e w2 ⟨⟨b1, b2, rfl, hii, _, _, hle, hlo⟩, hb2⟩
      have hB2 := blw_trans hB hb2
      have hO2 := HO.out.later hb2
      have HP : Hid (∀ v, v = [.string r.kind, .string r.name, .string r.team, .slice (some ⟨b1, 0, none⟩) r.values.length r.values.length, .bool r.ending, .slice (some ⟨b2, 0, none⟩) r.holds.length r.holds.length, .int .i64 r.version] →
          Below w.heap.size w (puts w2 w.heap.size (k * 7) 0 v) ∧ OwnBlk (puts w2 w.heap.size (k * 7) 0 v) w.heap.size 39 (rs.length * 7) ∧ ∀ i, i < k + 1 → OwnOb (puts w2 w.heap.size (k * 7) 0 v) w.heap.size (i * 7) (rs.getD i Ob.none)) := by
        intro v hv
        subst hv
        refine ⟨puts_below (a := w) _ (Nat.le_refl _) _ _ _ hB2, puts_own _ _ _ _ hO2, fun i hi => ?_⟩
        by_cases hik : i < k
        · exact ((HA.out i hik).later hb2 HO.out.lt).puts (k * 7) _ (by omega)
        · obtain rfl : i = k := by omega
          rw [← HX.out.2.1]
          exact own_put_ob hO2 (i * 7) (by omega) r b1 b2 ⟨Nat.lt_of_lt_of_le HO.out.lt hle, Nat.lt_trans (Nat.lt_of_lt_of_le HO.out.lt hle) hlo⟩ ⟨hii, HX.out.1.t1.sizes, HX.out.1.t2.sizes, HX.out.1.sized⟩
      clear c0 c1 c2 c3 c4 c5 c6 HX hii hle hlo
      have hfz := hO2.frozen
      obtain ⟨v0, o0⟩ := hO2.cell (k * 7) (by omega)
      obtain ⟨v1, o1⟩ := hO2.cell (k * 7 + 1) (by omega)
      obtain ⟨v2, o2⟩ := hO2.cell (k * 7 + 2) (by omega)
      obtain ⟨v3, o3⟩ := hO2.cell (k * 7 + 3) (by omega)
      obtain ⟨v4, o4⟩ := hO2.cell (k * 7 + 4) (by omega)
      obtain ⟨v5, o5⟩ := hO2.cell (k * 7 + 5) (by omega)
      obtain ⟨v6, o6⟩ := hO2.cell (k * 7 + 6) (by omega)
      clear hO2 hB2 hb2
      go_wp2
      go_roundw
      case rel => exact ⟨k + 1, by omega, by go_num, (HP.out _ rfl).1, (HP.out _ rfl).2.1, (HP.out _ rfl).2.2⟩
      case measure => simp [intOf]; omega
    · obtain rfl : k = rs.length := by omega
      go_wp2
      go_ret
      exact ⟨rfl, hB, HO.out, HA.out⟩

set_option maxHeartbeats 400000 in
theorem toObs_nil (a : Option Addr) (cap : Nat) (w : World) :
    Calls Try.prog 39 #[.slice a 0 cap] w fun e w' => e = .returned (.slice (some ⟨w.heap.size, 0, none⟩) 0 0) ∧ ∃ cs : Array Value, cs.size = 0 ∧ w' = w.alloc (.cells cs 39) := by
  obtain ⟨cs, hcs0, hmk0⟩ := make_ob 0 (by omega)
  have hmk : ∀ W : World, (Instr.makeSlice 52 (.int .i64 0) (.int .i64 0)).run Try.prog W = .ok (.slice (some ⟨W.heap.size, 0, none⟩) 0 0) (W.alloc (.cells cs 39)) := hmk0
  clear hmk0
  go_enter Try.func39, Try.ntmps39
  go_wp2
  refine wp_loop_rounds 1 ?_
  rw [rounds_succ]
  go_wp2
  go_ret
  exact ⟨rfl, _, by omega, rfl⟩

theorem toObs (v : Value) (rs : List Ob) (w : World) (hl : rs.length ≤ 1048576) (hsm : ∀ r ∈ rs, r.small) (h : ObsAt w v rs) :
    Calls Try.prog 39 #[v] w fun e w' => e = .returned (.slice (some ⟨w.heap.size, 0, none⟩) rs.length rs.length) ∧ Below w.heap.size w w' ∧ ObsIn w' w.heap.size rs := by
  rcases h with ⟨a, cap, rfl, rfl⟩ | ⟨b, off, cap, rfl, hb, _, hc⟩
  · refine (toObs_nil a cap w).mono ?_
    rintro e w' ⟨rfl, cs, hcs, rfl⟩
    exact ⟨rfl, blw_alloc (Below.refl _ _) _, ⟨by simp, by simp, fun i hi => absurd hi (Nat.not_lt_zero i), OwnBlk.alloc w cs _ _ (by simpa using hcs)⟩⟩
  · refine (toObs_row b off cap rs w hl hsm hb hc).mono ?_
    rintro e w' ⟨rfl, h1, h2, h3⟩
    exact ⟨rfl, h1, h2.lt, hl, h3, h2⟩

set_option maxHeartbeats 2000000 in
theorem eqObs (B B' : Nat) (rs : List Ob) (w : World) (h : ObsIn w B rs) (h' : ObsIn w B' rs) :
    Calls Try.prog 44 #[.slice (some ⟨B, 0, none⟩) rs.length rs.length, .slice (some ⟨B', 0, none⟩) rs.length rs.length] w fun e w' => e = .returned (.bool true) ∧ Below w.heap.size w w' := by
  have hl := h.len
  have HH : Hid (ObsIn w B rs ∧ ObsIn w B' rs) := ⟨h, h'⟩
  clear h h'
  go_enter Try.func44, Try.ntmps44
  go_wp2
  go_loopw [5] (fun i wr => ∃ k : Nat, k ≤ rs.length ∧ i = .int .i64 k ∧ Below w.heap.size w wr) (fun i _ => rs.length - (intOf i).toNat)
  case atStart => exact ⟨0, Nat.zero_le _, rfl, Below.refl _ _⟩
  case round =>
    obtain ⟨k, hk, rfl, hW⟩ := hrel
    by_cases hlt : k < rs.length
    · have q := (HH.out.1.later hW).at_ k hlt
      have q' := (HH.out.2.later hW).at_ k hlt
      obtain ⟨r, hm⟩ : ∃ r, r = rs.getD k Ob.none := ⟨_, rfl⟩
      rw [← hm] at q q'
      obtain ⟨b1, b2, _, c0, c1, c2, c3, c4, c5, c6, hn⟩ := q
      obtain ⟨b1', b2', _, d0, d1, d2, d3, d4, d5, d6, hn'⟩ := q'
      have HX : Hid (∀ W, Below wr.heap.size wr W → Calls Try.prog 12 #[.agg #[.string r.kind, .string r.name, .string r.team, .slice (some ⟨b1, 0, none⟩) r.values.length r.values.length, .bool r.ending, .slice (some ⟨b2, 0, none⟩) r.holds.length r.holds.length, .int .i64 r.version], .agg #[.string r.kind, .string r.name, .string r.team, .slice (some ⟨b1', 0, none⟩) r.values.length r.values.length, .bool r.ending, .slice (some ⟨b2', 0, none⟩) r.holds.length r.holds.length, .int .i64 r.version]] W fun e w' => e = .returned (.bool true) ∧ Below W.heap.size W w') := fun W hW => eqObA r b1 b2 b1' b2' W (hn.later hW) (hn'.later hW)
      clear hm hn hn'
      go_wp2_with fail
      go_region_with (go_at_call 12; refine (HX.out _ ?_).mono ?_; (repeat (first | exact Below.refl _ _ | refine Below.drew ?_)); rintro e w2 ⟨rfl, hb2⟩)
      all_goals
        go_wp2
        go_roundw
        case rel =>
          refine ⟨k + 1, by omega, by go_num, ?_⟩
          repeat (first | exact blw_trans hW hb2 | exact blw_trans hW.drew hb2 | exact blw_trans hW.drew.drew hb2 | refine Below.drew ?_)
        case measure => simp [intOf]; omega
    · go_wp2
      go_ret
      exact ⟨rfl, hW⟩

theorem small_take_obR {rs : List Ob} {k : Nat} (h : ∀ r ∈ rs.take k, r.small) (hk : k < rs.length) (hs : (rs.getD k Ob.none).small) : ∀ r ∈ rs.take (k + 1), r.small := by
  have e : rs.getD k Ob.none = rs[k] := by simp [hk]
  rw [e] at hs
  intro r hr
  rw [List.take_succ_eq_append_getElem hk, List.mem_append, List.mem_singleton] at hr
  rcases hr with hr | rfl
  · exact h r hr
  · exact hs

set_option maxHeartbeats 1000000 in
theorem szObs_row (b off cap : Nat) (rs : List Ob) (left : Int) (w : World) (h0 : 0 ≤ left) (h1 : left ≤ 1048576) (hb : b < w.heap.size) (hl : rs.length ≤ maxLen)
    (hc : ∀ i, i < rs.length → ObC w b (off + i * 7) (rs.getD i Ob.none)) :
    Calls Try.prog 34 #[.slice (some ⟨b, off, none⟩) rs.length cap, .int .i64 left] w fun e w' => (∃ x : Int, e = .returned (.int .i64 x) ∧ szP ((rs.length : Int) ≤ left ∧ ∀ r ∈ rs, r.small) left x) ∧ Below w.heap.size w w' := by
  unfold maxLen at hl
  have HC : Hid (∀ i, i < rs.length → ObC w b (off + i * 7) (rs.getD i Ob.none)) := hc
  obtain ⟨P, hP⟩ : ∃ P : Prop, P = ((rs.length : Int) ≤ left ∧ ∀ r ∈ rs, r.small) := ⟨_, rfl⟩
  have HP : Hid (P = ((rs.length : Int) ≤ left ∧ ∀ r ∈ rs, r.small)) := hP
  rw [← hP]
  clear hc hP
  by_cases hneg : left < (rs.length : Int)
  · go_enter Try.func34, Try.ntmps34
    go_wp2
    go_ret
    exact ⟨⟨_, rfl, by unfold szP; refine ⟨by omega, by omega, fun h => by omega⟩⟩, Below.refl _ _⟩
  · go_enter Try.func34, Try.ntmps34
    go_wp2
    go_loopw [1, 5] (fun l i wr => ∃ (k : Nat) (x : Int), k ≤ rs.length ∧ i = .int .i64 k ∧ l = .int .i64 x ∧ 0 ≤ x ∧ x ≤ left ∧ (∀ r ∈ rs.take k, r.small) ∧ Below w.heap.size w wr) (fun _ i _ => rs.length - (intOf i).toNat)
    case atStart => exact ⟨0, _, Nat.zero_le _, rfl, rfl, by omega, by omega, fun r hr => by simp at hr, Below.refl _ _⟩
    case round =>
      obtain ⟨k, x, hk, rfl, rfl, x0, x1, hsm, hB⟩ := hrel
      have HS : Hid (∀ r ∈ rs.take k, r.small) := hsm
      clear hsm
      by_cases hlt : k < rs.length
      · have hf := (HC.out k hlt).later hB hb
        obtain ⟨r, hm⟩ : ∃ r, r = rs.getD k Ob.none := ⟨_, rfl⟩
        rw [← hm] at hf
        obtain ⟨v1, v2, c0, c1, c2, c3, c4, c5, c6, hn⟩ := hf
        have HM : Hid (r = rs.getD k Ob.none ∧ (ObAt wr v1 v2 r)) := ⟨hm, hn⟩
        clear hm hn
        go_wp2_with fail
        refine (szObA r v1 v2 x wr x0 (by omega) HM.out.2).mono ?_
        rintro e w2 ⟨⟨x', rfl, hx⟩, hb2⟩
        have HX : Hid (szP (r.small) x x') := hx
        have q1 := hx.1
        have q2 := hx.2.1
        have hB2 := blw_trans hB hb2
        clear hb2 c0 c1 c2 c3 c4 c5 c6 hx
        by_cases c2 : x' < 0
        · go_wp2
          go_ret
          exact ⟨⟨_, rfl, by unfold szP; exact ⟨by omega, by omega, fun h => by omega⟩⟩, hB2⟩
        · have HN : Hid (∀ r ∈ rs.take (k + 1), r.small) := small_take_obR HS.out hlt (by rw [← HM.out.1]; exact HX.out.2.2 (by omega))
          go_wp2
          go_roundw
          case rel => exact ⟨k + 1, _, by omega, by go_num, rfl, by omega, by omega, HN.out, hB2⟩
          case measure => simp [intOf]; omega
      · have HQ : Hid P := by
          show P
          rw [HP.out]
          have := HS.out
          rw [List.take_of_length_le (by omega)] at this
          exact ⟨by omega, this⟩
        go_wp2
        go_ret
        exact ⟨⟨_, rfl, by unfold szP; exact ⟨by omega, by omega, fun _ => HQ.out⟩⟩, hB⟩

set_option maxHeartbeats 400000 in
theorem szObs_nil (a : Option Addr) (cap : Nat) (left : Int) (w : World) (h0 : 0 ≤ left) (h1 : left ≤ 1048576) :
    Calls Try.prog 34 #[.slice a 0 cap, .int .i64 left] w fun e w' => e = .returned (.int .i64 left) ∧ w = w' := by
  go_enter Try.func34, Try.ntmps34
  go_wp2
  refine wp_loop_rounds 1 ?_
  rw [rounds_succ]
  go_wp2
  go_ret
  exact ⟨Pl.ret_int (by omega), rfl⟩

theorem szObs (v : Value) (rs : List Ob) (left : Int) (w : World) (h0 : 0 ≤ left) (h1 : left ≤ 1048576) (h : ObsAt w v rs) :
    Calls Try.prog 34 #[v, .int .i64 left] w fun e w' => (∃ x : Int, e = .returned (.int .i64 x) ∧ szP ((rs.length : Int) ≤ left ∧ ∀ r ∈ rs, r.small) left x) ∧ Below w.heap.size w w' := by
  rcases h with ⟨a, cap, rfl, rfl⟩ | ⟨b, off, cap, rfl, hb, hl, hc⟩
  · refine (szObs_nil a cap left w h0 h1).mono ?_
    rintro e w' ⟨rfl, rfl⟩
    exact ⟨⟨_, rfl, by unfold szP; exact ⟨by omega, by omega, fun _ => ⟨by simpa using h0, fun r hr => by simp at hr⟩⟩⟩, Below.refl _ _⟩
  · exact szObs_row b off cap rs left w h0 h1 hb hl hc


end Go.Proofs.Ytliaibdbcaglnaa
