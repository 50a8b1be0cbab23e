/-
  Lists of rules: as they lie in memory; sizes, copies, equality.
-/
import Derived.Test.YtikfcnmhfoknlaaDoorWalkRA
namespace Go.Proofs.YtikfcnmhfoknlaaDoor
open Go.RowKit Go.Deep

/-- A rule of four cells that was handed in. -/
def RulAt (w : World) (b o : Nat) (r : Rul) : Prop :=
  ∃ a c, w.cell? ⟨b, o, none⟩ = some (.slice a r.verbs.length c) ∧ w.cell? ⟨b, o + 1, none⟩ = some (.string r.kind) ∧ w.cell? ⟨b, o + 2, none⟩ = some (.string r.team) ∧ w.cell? ⟨b, o + 3, none⟩ = some (.string r.pre) ∧
    IntsAt w (.slice a r.verbs.length c) r.verbs ∧ r.verbs.length ≤ maxLen ∧ r.sized

theorem RulAt.later {w w' : World} {b o : Nat} {r : Rul} (h : RulAt w b o r) (hb : Below w.heap.size w w') (hlt : b < w.heap.size) : RulAt w' b o r := by
  obtain ⟨a, c, c0, c1, c2, c3, hi, hl, hs⟩ := h
  have q : ∀ j, w'.cell? ⟨b, j, none⟩ = w.cell? ⟨b, j, none⟩ := fun j => hb.cell (p := ⟨b, j, none⟩) hlt
  exact ⟨a, c, (q _).trans c0, (q _).trans c1, (q _).trans c2, (q _).trans c3, hi.later hb, hl, hs⟩

def RulsAt (w : World) (v : Value) (rs : List Rul) : Prop :=
  (∃ a cap, v = .slice a 0 cap ∧ rs = []) ∨ ∃ b off cap, v = .slice (some ⟨b, off, none⟩) rs.length cap ∧ b < w.heap.size ∧ rs.length ≤ maxLen ∧ ∀ i, i < rs.length → RulAt w b (off + i * 4) (rs.getD i Rul.none)

theorem RulsAt.later {w w' : World} {v : Value} {rs : List Rul} (h : RulsAt w v rs) (hb : Below w.heap.size w w') : RulsAt w' v rs := by
  rcases h with h | ⟨b, off, cap, rfl, h1, h2, h3⟩
  · exact Or.inl h
  · exact Or.inr ⟨b, off, cap, rfl, Nat.lt_of_lt_of_le h1 hb.size, h2, fun i hi => (h3 i hi).later hb h1⟩

def Rul.small (r : Rul) : Prop := r.verbs.length ≤ 1048576

/-- A rule in the block B of the call's own; its verbs behind B. -/
def OwnRul (w : World) (B o : Nat) (r : Rul) : Prop :=
  ∃ b, B < b ∧ w.cell? ⟨B, o, none⟩ = some (.slice (some ⟨b, 0, none⟩) r.verbs.length r.verbs.length) ∧ w.cell? ⟨B, o + 1, none⟩ = some (.string r.kind) ∧ w.cell? ⟨B, o + 2, none⟩ = some (.string r.team) ∧ w.cell? ⟨B, o + 3, none⟩ = some (.string r.pre) ∧ IntsIn w b r.verbs ∧ r.sized

theorem OwnRul.later {w w' : World} {b o : Nat} {r : Rul} (h : OwnRul w b o r) (hb : Below w.heap.size w w') (hlt : b < w.heap.size) : OwnRul w' b o r := by
  obtain ⟨a, h0, c0, c1, c2, c3, hi, hs⟩ := h
  have q : ∀ j, w'.cell? ⟨b, j, none⟩ = w.cell? ⟨b, j, none⟩ := fun j => hb.cell (p := ⟨b, j, none⟩) hlt
  exact ⟨a, h0, (q _).trans c0, (q _).trans c1, (q _).trans c2, (q _).trans c3, hi.later hb, hs⟩

structure RulsIn (w : World) (B : Nat) (rs : List Rul) : Prop where
  lt : B < w.heap.size
  len : rs.length ≤ 1048576
  at_ : ∀ i, i < rs.length → OwnRul w B (i * 4) (rs.getD i Rul.none)

theorem RulsIn.later {w w' : World} {B : Nat} {rs : List Rul} (h : RulsIn w B rs) (hb : Below w.heap.size w w') : RulsIn w' B rs :=
  ⟨Nat.lt_of_lt_of_le h.lt hb.size, h.len, fun i hi => (h.at_ i hi).later hb h.lt⟩

theorem IntsIn.puts {w : World} {b B : Nat} {l : List Int} (h : IntsIn w b l) (hne : B < b) (o : Nat) (vs : List Value) : IntsIn (puts w B o 0 vs) b l :=
  ⟨by rw [puts_size]; exact h.lt, h.len, fun i hi => (puts_other B o b i vs w 0 (Or.inl (by omega))).trans (h.at_ i hi)⟩

theorem OwnRul.puts {w : World} {B o : Nat} {r : Rul} (h : OwnRul w B o r) (o' : Nat) (vs : List Value) (ho : o + 4 ≤ o') : OwnRul (puts w B o' 0 vs) B o r := by
  obtain ⟨b, h0, c0, c1, c2, c3, hi, hs⟩ := h
  have c : ∀ j, j < o' → (YtikfcnmhfoknlaaDoor.puts w B o' 0 vs).cell? ⟨B, j, none⟩ = w.cell? ⟨B, j, none⟩ := fun j hj => puts_other B o' B j vs w 0 (by omega)
  exact ⟨b, h0, (c _ (by omega)).trans c0, (c _ (by omega)).trans c1, (c _ (by omega)).trans c2, (c _ (by omega)).trans c3, hi.puts h0 o' vs, hs⟩

theorem own_put_rul {w : World} {B : Nat} {t : TypeId} {n : Nat} (hO : OwnBlk w B t n) (o : Nat) (ho : o + 4 ≤ n) (r : Rul) (b : Nat) (hb : B < b) (hi : IntsIn w b r.verbs) (hs : r.sized) :
    OwnRul (puts w B o 0 [.slice (some ⟨b, 0, none⟩) r.verbs.length r.verbs.length, .string r.kind, .string r.team, .string r.pre]) B o r := by
  have c := fun i hi => puts_at o [.slice (some ⟨b, 0, none⟩) r.verbs.length r.verbs.length, .string r.kind, .string r.team, .string r.pre] w 0 hO (by simp; omega) i hi
  exact ⟨b, hb, c 0 (by simp), c 1 (by simp), c 2 (by simp), c 3 (by simp), hi.puts hb o _, hs⟩

theorem Tryd.info38 : (Tryd.prog.info? 38).map (fun i => (i.zero, i.size, i.bytes)) = some (some (.agg #[.slice none 0 0, .string ByteArray.empty, .string ByteArray.empty, .string ByteArray.empty]), 4, 72) := by kernel_rfl

theorem make_ruls (n : Nat) (h : n ≤ 1048576) : ∃ cs : Array Value, cs.size = n * 4 ∧ ∀ W : World,
    (Instr.makeSlice 36 (.int .i64 (n : Int)) (.int .i64 (n : Int))).run Tryd.prog W = .ok (.slice (some ⟨W.heap.size, 0, none⟩) n n) (W.alloc (.cells cs 38)) := by
  obtain ⟨i, hi, hzz⟩ := Option.map_eq_some_iff.1 Tryd.info38
  simp only [Prod.mk.injEq] at hzz
  obtain ⟨hz, hs, hb⟩ := hzz
  refine ⟨madeCells (Value.agg #[.slice none 0 0, .string ByteArray.empty, .string ByteArray.empty, .string ByteArray.empty]).cells (n * 4), size_madeCells _ _, fun W => ?_⟩
  have hr := run_make (P := Tryd.prog) W 36 38 i _ Tryd.underlying36 hi hz .i64 .i64 n n (by omega) (Int.le_refl _) (by rw [hb]; omega) (by omega)
  simp only [Int.toNat_natCast, hs] at hr
  exact hr

set_option maxHeartbeats 1000000 in
theorem toRules_row (b off cap : Nat) (rs : List Rul) (w : World) (hl : rs.length ≤ 1048576) (hsm : ∀ r ∈ rs, r.small) (hb : b < w.heap.size)
    (hc : ∀ i, i < rs.length → RulAt w b (off + i * 4) (rs.getD i Rul.none)) :
    Calls Tryd.prog 9 #[.slice (some ⟨b, off, none⟩) rs.length cap] w fun e w' => e = .returned (.slice (some ⟨w.heap.size, 0, none⟩) rs.length rs.length) ∧ Below w.heap.size w w' ∧ OwnBlk w' w.heap.size 38 (rs.length * 4) ∧
      ∀ i, i < rs.length → OwnRul w' w.heap.size (i * 4) (rs.getD i Rul.none) := by
  obtain ⟨cs, hcs, hmk⟩ := make_ruls rs.length hl
  have HC : Hid (∀ i, i < rs.length → RulAt w b (off + i * 4) (rs.getD i Rul.none) ∧ (rs.getD i Rul.none).small) := by
    intro i hi
    refine ⟨hc i hi, ?_⟩
    have e : rs.getD i Rul.none = rs[i] := by simp [hi]
    rw [e]
    exact hsm _ (List.getElem_mem hi)
  clear hc hsm
  go_enter Tryd.func9, Tryd.ntmps9
  go_wp2
  go_loopw [4] (fun i wr => ∃ k : Nat, k ≤ rs.length ∧ i = .int .i64 k ∧ Below w.heap.size w wr ∧ OwnBlk wr w.heap.size 38 (rs.length * 4) ∧ ∀ i, i < k → OwnRul wr w.heap.size (i * 4) (rs.getD i Rul.none)) (fun i _ => rs.length - (intOf i).toNat)
  case atStart => exact ⟨0, Nat.zero_le _, rfl, blw_alloc (Below.refl _ _) _, OwnBlk.alloc w cs 38 _ hcs, fun i hi => absurd hi (Nat.not_lt_zero i)⟩
  case round =>
    obtain ⟨k, hk, rfl, hB, hO, hall⟩ := hrel
    have HA : Hid (∀ i, i < k → OwnRul wr w.heap.size (i * 4) (rs.getD i Rul.none)) := hall
    have HO : Hid (OwnBlk wr w.heap.size 38 (rs.length * 4)) := hO
    clear hall hmk hcs hO
    by_cases hlt : k < rs.length
    · have hf := (HC.out k hlt).1.later hB hb
      obtain ⟨r, hm⟩ : ∃ r, r = rs.getD k Rul.none := ⟨_, rfl⟩
      rw [← hm] at hf
      obtain ⟨ra, rc, c0, c1, c2, c3, hia, hlm, hsz⟩ := hf
      have HX : Hid (r.sized ∧ r = rs.getD k Rul.none ∧ r.small ∧ IntsAt wr (.slice ra r.verbs.length rc) r.verbs) := ⟨hsz, hm, by rw [hm]; exact (HC.out k hlt).2, hia⟩
      clear hm hia hlm hsz
      go_wp2_with fail
      refine (toRule ra rc r wr HX.out.2.2.1 HX.out.2.2.2).mono ?_
      rintro e w2 ⟨⟨b2, rfl, hle, _, hii⟩, hb2⟩
      have hB2 := blw_trans hB hb2
      have hO2 := HO.out.later hb2
      have HP : Hid (∀ v, v = [.slice (some ⟨b2, 0, none⟩) r.verbs.length r.verbs.length, .string r.kind, .string r.team, .string r.pre] →
          Below w.heap.size w (puts w2 w.heap.size (k * 4) 0 v) ∧ OwnBlk (puts w2 w.heap.size (k * 4) 0 v) w.heap.size 38 (rs.length * 4) ∧ ∀ i, i < k + 1 → OwnRul (puts w2 w.heap.size (k * 4) 0 v) w.heap.size (i * 4) (rs.getD i Rul.none)) := by
        intro v hv
        subst hv
        refine ⟨puts_below (a := w) _ (Nat.le_refl _) _ _ _ hB2, puts_own _ _ _ _ hO2, fun i hi => ?_⟩
        by_cases hik : i < k
        · exact ((HA.out i hik).later hb2 HO.out.lt).puts (k * 4) _ (by omega)
        · obtain rfl : i = k := by omega
          rw [← HX.out.2.1]
          exact own_put_rul hO2 (i * 4) (by omega) r b2 (Nat.lt_of_lt_of_le HO.out.lt hle) hii HX.out.1
      clear c0 c1 c2 c3 HX hii hle
      have hfz := hO2.frozen
      obtain ⟨v0, o0⟩ := hO2.cell (k * 4) (by omega)
      obtain ⟨v1, o1⟩ := hO2.cell (k * 4 + 1) (by omega)
      obtain ⟨v2, o2⟩ := hO2.cell (k * 4 + 2) (by omega)
      obtain ⟨v3, o3⟩ := hO2.cell (k * 4 + 3) (by omega)
      clear hO2 hB2 hb2
      go_wp2
      go_roundw
      case rel => exact ⟨k + 1, by omega, by go_num, (HP.out _ rfl).1, (HP.out _ rfl).2.1, (HP.out _ rfl).2.2⟩
      case measure => simp [intOf]; omega
    · obtain rfl : k = rs.length := by omega
      go_wp2
      go_ret
      exact ⟨rfl, hB, HO.out, HA.out⟩

set_option maxHeartbeats 400000 in
theorem toRules_nil (a : Option Addr) (cap : Nat) (w : World) :
    Calls Tryd.prog 9 #[.slice a 0 cap] w fun e w' => e = .returned (.slice (some ⟨w.heap.size, 0, none⟩) 0 0) ∧ ∃ cs : Array Value, cs.size = 0 ∧ w' = w.alloc (.cells cs 38) := by
  obtain ⟨cs, hcs0, hmk0⟩ := make_ruls 0 (by omega)
  have hmk : ∀ W : World, (Instr.makeSlice 36 (.int .i64 0) (.int .i64 0)).run Tryd.prog W = .ok (.slice (some ⟨W.heap.size, 0, none⟩) 0 0) (W.alloc (.cells cs 38)) := hmk0
  clear hmk0
  go_enter Tryd.func9, Tryd.ntmps9
  go_wp2
  refine wp_loop_rounds 1 ?_
  rw [rounds_succ]
  go_wp2
  go_ret
  exact ⟨rfl, _, by omega, rfl⟩

theorem toRules (v : Value) (rs : List Rul) (w : World) (hl : rs.length ≤ 1048576) (hsm : ∀ r ∈ rs, r.small) (h : RulsAt w v rs) :
    Calls Tryd.prog 9 #[v] w fun e w' => e = .returned (.slice (some ⟨w.heap.size, 0, none⟩) rs.length rs.length) ∧ Below w.heap.size w w' ∧ RulsIn w' w.heap.size rs := by
  rcases h with ⟨a, cap, rfl, rfl⟩ | ⟨b, off, cap, rfl, hb, _, hc⟩
  · refine (toRules_nil a cap w).mono ?_
    rintro e w' ⟨rfl, cs, hcs, rfl⟩
    exact ⟨rfl, blw_alloc (Below.refl _ _) _, ⟨by simp, by simp, fun i hi => absurd hi (Nat.not_lt_zero i)⟩⟩
  · refine (toRules_row b off cap rs w hl hsm hb hc).mono ?_
    rintro e w' ⟨rfl, h1, h2, h3⟩
    exact ⟨rfl, h1, h2.lt, hl, h3⟩

set_option maxHeartbeats 2000000 in
theorem eqRules (B B' : Nat) (rs : List Rul) (w : World) (h : RulsIn w B rs) (h' : RulsIn w B' rs) :
    Calls Tryd.prog 14 #[.slice (some ⟨B, 0, none⟩) rs.length rs.length, .slice (some ⟨B', 0, none⟩) rs.length rs.length] w fun e w' => e = .returned (.bool true) ∧ Below w.heap.size w w' := by
  have hl := h.len
  have HH : Hid (RulsIn w B rs ∧ RulsIn w B' rs) := ⟨h, h'⟩
  clear h h'
  go_enter Tryd.func14, Tryd.ntmps14
  go_wp2
  go_loopw [5] (fun i wr => ∃ k : Nat, k ≤ rs.length ∧ i = .int .i64 k ∧ Below w.heap.size w wr) (fun i _ => rs.length - (intOf i).toNat)
  case atStart => exact ⟨0, Nat.zero_le _, rfl, Below.refl _ _⟩
  case round =>
    obtain ⟨k, hk, rfl, hW⟩ := hrel
    by_cases hlt : k < rs.length
    · have q := (HH.out.1.later hW).at_ k hlt
      have q' := (HH.out.2.later hW).at_ k hlt
      obtain ⟨r, hm⟩ : ∃ r, r = rs.getD k Rul.none := ⟨_, rfl⟩
      rw [← hm] at q q'
      obtain ⟨b, _, c0, c1, c2, c3, hi, _⟩ := q
      obtain ⟨b', _, d0, d1, d2, d3, hi', _⟩ := q'
      have HX : Hid (∀ W, Below wr.heap.size wr W → Calls Tryd.prog 15 #[.agg #[.slice (some ⟨b, 0, none⟩) r.verbs.length r.verbs.length, .string r.kind, .string r.team, .string r.pre], .agg #[.slice (some ⟨b', 0, none⟩) r.verbs.length r.verbs.length, .string r.kind, .string r.team, .string r.pre]] W fun e w' => e = .returned (.bool true) ∧ Below W.heap.size W w') := fun W hW => eqRule b b' r W (hi.later hW) (hi'.later hW)
      clear hm hi hi'
      go_wp2_with fail
      go_region_with (go_at_call 15; refine (HX.out _ ?_).mono ?_; (repeat (first | exact Below.refl _ _ | refine Below.drew ?_)); rintro e w2 ⟨rfl, hb2⟩)
      all_goals
        go_wp2
        go_roundw
        case rel =>
          refine ⟨k + 1, by omega, by go_num, ?_⟩
          repeat (first | exact blw_trans hW hb2 | exact blw_trans hW.drew hb2 | exact blw_trans hW.drew.drew hb2 | refine Below.drew ?_)
        case measure => simp [intOf]; omega
    · go_wp2
      go_ret
      exact ⟨rfl, hW⟩

theorem small_take {rs : List Rul} {k : Nat} (h : ∀ r ∈ rs.take k, r.small) (hk : k < rs.length) (hs : (rs.getD k Rul.none).small) : ∀ r ∈ rs.take (k + 1), r.small := by
  have e : rs.getD k Rul.none = rs[k] := by simp [hk]
  rw [e] at hs
  intro r hr
  rw [List.take_succ_eq_append_getElem hk, List.mem_append, List.mem_singleton] at hr
  rcases hr with hr | rfl
  · exact h r hr
  · exact hs

set_option maxHeartbeats 1000000 in
theorem szRules_row (b off cap : Nat) (rs : List Rul) (left : Int) (w : World) (h0 : 0 ≤ left) (h1 : left ≤ 1048576) (hb : b < w.heap.size) (hl : rs.length ≤ maxLen)
    (hc : ∀ i, i < rs.length → RulAt w b (off + i * 4) (rs.getD i Rul.none)) :
    Calls Tryd.prog 5 #[.slice (some ⟨b, off, none⟩) rs.length cap, .int .i64 left] w fun e w' => (∃ x : Int, e = .returned (.int .i64 x) ∧ szP ((rs.length : Int) ≤ left ∧ ∀ r ∈ rs, r.small) left x) ∧ Below w.heap.size w w' := by
  unfold maxLen at hl
  have HC : Hid (∀ i, i < rs.length → RulAt w b (off + i * 4) (rs.getD i Rul.none)) := hc
  obtain ⟨P, hP⟩ : ∃ P : Prop, P = ((rs.length : Int) ≤ left ∧ ∀ r ∈ rs, r.small) := ⟨_, rfl⟩
  have HP : Hid (P = ((rs.length : Int) ≤ left ∧ ∀ r ∈ rs, r.small)) := hP
  rw [← hP]
  clear hc hP
  by_cases hneg : left < (rs.length : Int)
  · go_enter Tryd.func5, Tryd.ntmps5
    go_wp2
    go_ret
    exact ⟨⟨_, rfl, by unfold szP; refine ⟨by omega, by omega, fun h => by omega⟩⟩, Below.refl _ _⟩
  · go_enter Tryd.func5, Tryd.ntmps5
    go_wp2
    go_loopw [1, 5] (fun l i wr => ∃ (k : Nat) (x : Int), k ≤ rs.length ∧ i = .int .i64 k ∧ l = .int .i64 x ∧ 0 ≤ x ∧ x ≤ left ∧ (∀ r ∈ rs.take k, r.small) ∧ Below w.heap.size w wr) (fun _ i _ => rs.length - (intOf i).toNat)
    case atStart => exact ⟨0, _, Nat.zero_le _, rfl, rfl, by omega, by omega, fun r hr => by simp at hr, Below.refl _ _⟩
    case round =>
      obtain ⟨k, x, hk, rfl, rfl, x0, x1, hsm, hB⟩ := hrel
      have HS : Hid (∀ r ∈ rs.take k, r.small) := hsm
      clear hsm
      by_cases hlt : k < rs.length
      · have hf := (HC.out k hlt).later hB hb
        obtain ⟨r, hm⟩ : ∃ r, r = rs.getD k Rul.none := ⟨_, rfl⟩
        rw [← hm] at hf
        obtain ⟨ra, rc, c0, c1, c2, c3, hia, hlm, hsz⟩ := hf
        have HM : Hid (r = rs.getD k Rul.none ∧ r.verbs.length ≤ maxLen ∧ r.sized) := ⟨hm, hlm, hsz⟩
        clear hm hia hlm hsz
        go_wp2_with fail
        refine (szRule ra rc r x wr x0 (by omega) HM.out.2.1 HM.out.2.2).mono ?_
        rintro e w2 ⟨⟨x', rfl, hx⟩, hb2⟩
        have HX : Hid (szP ((r.verbs.length : Int) ≤ x) x x') := hx
        have q1 := hx.1
        have q2 := hx.2.1
        have hB2 := blw_trans hB hb2
        clear hb2 c0 c1 c2 c3 hx
        by_cases c2 : x' < 0
        · go_wp2
          go_ret
          exact ⟨⟨_, rfl, by unfold szP; exact ⟨by omega, by omega, fun h => by omega⟩⟩, hB2⟩
        · have HN : Hid (∀ r ∈ rs.take (k + 1), r.small) := small_take HS.out hlt (by rw [← HM.out.1]; have := HX.out.2.2 (by omega); show r.verbs.length ≤ 1048576; omega)
          go_wp2
          go_roundw
          case rel => exact ⟨k + 1, _, by omega, by go_num, rfl, by omega, by omega, HN.out, hB2⟩
          case measure => simp [intOf]; omega
      · have HQ : Hid P := by
          show P
          rw [HP.out]
          have := HS.out
          rw [List.take_of_length_le (by omega)] at this
          exact ⟨by omega, this⟩
        go_wp2
        go_ret
        exact ⟨⟨_, rfl, by unfold szP; exact ⟨by omega, by omega, fun _ => HQ.out⟩⟩, hB⟩

set_option maxHeartbeats 400000 in
theorem szRules_nil (a : Option Addr) (cap : Nat) (left : Int) (w : World) (h0 : 0 ≤ left) (h1 : left ≤ 1048576) :
    Calls Tryd.prog 5 #[.slice a 0 cap, .int .i64 left] w fun e w' => e = .returned (.int .i64 left) ∧ w = w' := by
  go_enter Tryd.func5, Tryd.ntmps5
  go_wp2
  refine wp_loop_rounds 1 ?_
  rw [rounds_succ]
  go_wp2
  go_ret
  exact ⟨Pl.ret_int (by omega), rfl⟩

theorem szRules (v : Value) (rs : List Rul) (left : Int) (w : World) (h0 : 0 ≤ left) (h1 : left ≤ 1048576) (h : RulsAt w v rs) :
    Calls Tryd.prog 5 #[v, .int .i64 left] w fun e w' => (∃ x : Int, e = .returned (.int .i64 x) ∧ szP ((rs.length : Int) ≤ left ∧ ∀ r ∈ rs, r.small) left x) ∧ Below w.heap.size w w' := by
  rcases h with ⟨a, cap, rfl, rfl⟩ | ⟨b, off, cap, rfl, hb, hl, hc⟩
  · refine (szRules_nil a cap left w h0 h1).mono ?_
    rintro e w' ⟨rfl, rfl⟩
    exact ⟨⟨_, rfl, by unfold szP; exact ⟨by omega, by omega, fun _ => ⟨by simpa using h0, fun r hr => by simp at hr⟩⟩⟩, Below.refl _ _⟩
  · exact szRules_row b off cap rs left w h0 h1 hb hl hc

end Go.Proofs.YtikfcnmhfoknlaaDoor
