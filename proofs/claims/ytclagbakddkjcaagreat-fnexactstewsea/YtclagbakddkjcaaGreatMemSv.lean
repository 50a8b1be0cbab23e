/-
  Services: as they lie in memory; sizes, copies, equality.
-/
import Derived.Test.YtclagbakddkjcaaGreatMemBt
namespace Go.Proofs.YtclagbakddkjcaaGreat
open Go.RowKit Go.Deep


structure Sv where
  nm : ByteArray
  ver : Int
  gone : Bool
  image : Int
  want : Int
  down : Int
  over : Int
  next : Int
  per : Int
  least : Int
  most : Int
  load : Int
  cool : Int

def Sv.none : Sv := ⟨ByteArray.empty, 0, false, 0, 0, 0, 0, 0, 0, 0, 0, 0, 0⟩

def Sv.sized (m : Sv) : Prop := m.nm.size ≤ maxLen

structure SvIs (w : World) (b o : Nat) (m : Sv) : Prop where
  c0 : w.cell? ⟨b, o, none⟩ = some (.string m.nm)
  c1 : w.cell? ⟨b, o + 1, none⟩ = some (.int .i64 m.ver)
  c2 : w.cell? ⟨b, o + 2, none⟩ = some (.bool m.gone)
  c3 : w.cell? ⟨b, o + 3, none⟩ = some (.int .i64 m.image)
  c4 : w.cell? ⟨b, o + 4, none⟩ = some (.int .i64 m.want)
  c5 : w.cell? ⟨b, o + 5, none⟩ = some (.int .i64 m.down)
  c6 : w.cell? ⟨b, o + 6, none⟩ = some (.int .i64 m.over)
  c7 : w.cell? ⟨b, o + 7, none⟩ = some (.int .i64 m.next)
  c8 : w.cell? ⟨b, o + 8, none⟩ = some (.int .i64 m.per)
  c9 : w.cell? ⟨b, o + 9, none⟩ = some (.int .i64 m.least)
  c10 : w.cell? ⟨b, o + 10, none⟩ = some (.int .i64 m.most)
  c11 : w.cell? ⟨b, o + 11, none⟩ = some (.int .i64 m.load)
  c12 : w.cell? ⟨b, o + 12, none⟩ = some (.int .i64 m.cool)
  sized : m.sized

theorem SvIs.later {w w' : World} {b o : Nat} {m : Sv} (h : SvIs w b o m) (hb : Below w.heap.size w w') (hlt : b < w.heap.size) : SvIs w' b o m := by
  have c : ∀ j, w'.cell? ⟨b, j, none⟩ = w.cell? ⟨b, j, none⟩ := fun j => hb.cell (p := ⟨b, j, none⟩) hlt
  exact ⟨(c _).trans h.c0, (c _).trans h.c1, (c _).trans h.c2, (c _).trans h.c3, (c _).trans h.c4, (c _).trans h.c5, (c _).trans h.c6, (c _).trans h.c7, (c _).trans h.c8, (c _).trans h.c9, (c _).trans h.c10, (c _).trans h.c11, (c _).trans h.c12, h.sized⟩

def SvsAt (w : World) (v : Value) (ms : List Sv) : Prop :=
  (∃ a cap, v = .slice a 0 cap ∧ ms = []) ∨ ∃ b off cap, v = .slice (some ⟨b, off, none⟩) ms.length cap ∧ b < w.heap.size ∧ ms.length ≤ maxLen ∧ ∀ i, i < ms.length → SvIs w b (off + i * 13) (ms.getD i Sv.none)

theorem SvsAt.later {w w' : World} {v : Value} {ms : List Sv} (h : SvsAt w v ms) (hb : Below w.heap.size w w') : SvsAt w' v ms := by
  rcases h with h | ⟨b, off, cap, rfl, h1, h2, h3⟩
  · exact Or.inl h
  · exact Or.inr ⟨b, off, cap, rfl, Nat.lt_of_lt_of_le h1 hb.size, h2, fun i hi => (h3 i hi).later hb h1⟩

structure SvsIn (w : World) (B : Nat) (ms : List Sv) : Prop where
  lt : B < w.heap.size
  len : ms.length ≤ 1048576
  at_ : ∀ i, i < ms.length → SvIs w B (i * 13) (ms.getD i Sv.none)
  own : OwnBlk w B 41 (ms.length * 13)

theorem SvsIn.later {w w' : World} {B : Nat} {ms : List Sv} (h : SvsIn w B ms) (hb : Below w.heap.size w w') : SvsIn w' B ms :=
  ⟨Nat.lt_of_lt_of_le h.lt hb.size, h.len, fun i hi => (h.at_ i hi).later hb h.lt, h.own.later hb⟩

theorem SvsIn.sc {w : World} {B p : Nat} {ms : List Sv} (h : SvsIn w B ms) (hp : p < B) (j : Nat) (v : Value) : SvsIn (w.setCell ⟨p, j, none⟩ v) B ms := by
  have c : ∀ q, (w.setCell ⟨p, j, none⟩ v).cell? ⟨B, q, none⟩ = w.cell? ⟨B, q, none⟩ := fun q => sc_ne _ _ _ _ _ _ (by omega)
  exact ⟨by rw [sc_size]; exact h.lt, h.len, fun i hi => by have h := h.at_ i hi; exact ⟨(c _).trans h.c0, (c _).trans h.c1, (c _).trans h.c2, (c _).trans h.c3, (c _).trans h.c4, (c _).trans h.c5, (c _).trans h.c6, (c _).trans h.c7, (c _).trans h.c8, (c _).trans h.c9, (c _).trans h.c10, (c _).trans h.c11, (c _).trans h.c12, h.sized⟩, h.own.sc_other (by omega) _ _⟩

theorem SvIs.puts {w : World} {B o : Nat} {m : Sv} (h : SvIs w B o m) (o' : Nat) (vs : List Value) (ho : o + 13 ≤ o') : SvIs (puts w B o' 0 vs) B o m := by
  have c : ∀ j, j < o' → (YtclagbakddkjcaaGreat.puts w B o' 0 vs).cell? ⟨B, j, none⟩ = w.cell? ⟨B, j, none⟩ := fun j hj => puts_other B o' B j vs w 0 (by omega)
  exact ⟨(c _ (by omega)).trans h.c0, (c _ (by omega)).trans h.c1, (c _ (by omega)).trans h.c2, (c _ (by omega)).trans h.c3, (c _ (by omega)).trans h.c4, (c _ (by omega)).trans h.c5, (c _ (by omega)).trans h.c6, (c _ (by omega)).trans h.c7, (c _ (by omega)).trans h.c8, (c _ (by omega)).trans h.c9, (c _ (by omega)).trans h.c10, (c _ (by omega)).trans h.c11, (c _ (by omega)).trans h.c12, h.sized⟩

theorem own_put_sv {w : World} {B : Nat} {t : TypeId} {n : Nat} (hO : OwnBlk w B t n) (o : Nat) (ho : o + 13 ≤ n) (m : Sv) (hs : m.sized) :
    SvIs (puts w B o 0 [.string m.nm, .int .i64 m.ver, .bool m.gone, .int .i64 m.image, .int .i64 m.want, .int .i64 m.down, .int .i64 m.over, .int .i64 m.next, .int .i64 m.per, .int .i64 m.least, .int .i64 m.most, .int .i64 m.load, .int .i64 m.cool]) B o m := by
  have c := fun i hi => puts_at o [.string m.nm, .int .i64 m.ver, .bool m.gone, .int .i64 m.image, .int .i64 m.want, .int .i64 m.down, .int .i64 m.over, .int .i64 m.next, .int .i64 m.per, .int .i64 m.least, .int .i64 m.most, .int .i64 m.load, .int .i64 m.cool] w 0 hO (by simp; omega) i hi
  exact ⟨c 0 (by simp), c 1 (by simp), c 2 (by simp), c 3 (by simp), c 4 (by simp), c 5 (by simp), c 6 (by simp), c 7 (by simp), c 8 (by simp), c 9 (by simp), c 10 (by simp), c 11 (by simp), c 12 (by simp), hs⟩

theorem Tryz.info41 : (Tryz.prog.info? 41).map (fun i => (i.zero, i.size, i.bytes)) = some (some (.agg #[.string ByteArray.empty, .int .i64 0, .bool false, .int .i64 0, .int .i64 0, .int .i64 0, .int .i64 0, .int .i64 0, .int .i64 0, .int .i64 0, .int .i64 0, .int .i64 0, .int .i64 0]), 13, 112) := by kernel_rfl

theorem Tryz.underlying33' : Tryz.prog.underlying 33 = some (.slice 41) := by kernel_rfl

theorem make_sv (n : Nat) (h : n ≤ 1048576) : ∃ cs : Array Value, cs.size = n * 13 ∧ ∀ W : World,
    (Instr.makeSlice 33 (.int .i64 (n : Int)) (.int .i64 (n : Int))).run Tryz.prog W = .ok (.slice (some ⟨W.heap.size, 0, none⟩) n n) (W.alloc (.cells cs 41)) := by
  obtain ⟨i, hi, hzz⟩ := Option.map_eq_some_iff.1 Tryz.info41
  simp only [Prod.mk.injEq] at hzz
  obtain ⟨hz, hs, hb⟩ := hzz
  refine ⟨madeCells (Value.agg #[.string ByteArray.empty, .int .i64 0, .bool false, .int .i64 0, .int .i64 0, .int .i64 0, .int .i64 0, .int .i64 0, .int .i64 0, .int .i64 0, .int .i64 0, .int .i64 0, .int .i64 0]).cells (n * 13), size_madeCells _ _, fun W => ?_⟩
  have hr := run_make (P := Tryz.prog) W 33 41 i _ Tryz.underlying33' hi hz .i64 .i64 n n (by omega) (Int.le_refl _) (by rw [hb]; omega) (by omega)
  simp only [Int.toNat_natCast, hs] at hr
  exact hr

set_option maxHeartbeats 1000000 in
theorem toSv (m : Sv) (w : World) :
    Calls Tryz.prog 24 #[.agg #[.string m.nm, .int .i64 m.ver, .bool m.gone, .int .i64 m.image, .int .i64 m.want, .int .i64 m.down, .int .i64 m.over, .int .i64 m.next, .int .i64 m.per, .int .i64 m.least, .int .i64 m.most, .int .i64 m.load, .int .i64 m.cool]] w fun e w' => e = .returned (.agg #[.string m.nm, .int .i64 m.ver, .bool m.gone, .int .i64 m.image, .int .i64 m.want, .int .i64 m.down, .int .i64 m.over, .int .i64 m.next, .int .i64 m.per, .int .i64 m.least, .int .i64 m.most, .int .i64 m.load, .int .i64 m.cool]) ∧ Below w.heap.size w w' := by
  go_enter Tryz.func24, Tryz.ntmps24
  go_wp2
  refine bodyPost_ret (v := .agg #[.string m.nm, .int .i64 m.ver, .bool m.gone, .int .i64 m.image, .int .i64 m.want, .int .i64 m.down, .int .i64 m.over, .int .i64 m.next, .int .i64 m.per, .int .i64 m.least, .int .i64 m.most, .int .i64 m.load, .int .i64 m.cool]) (by simp [results, Tryz.results24, go_sem]) rfl ⟨rfl, ?_⟩
  repeat (first | exact Below.refl _ _ | refine blw_alloc ?_ _ | refine Below.setCell ?_ (by simp) _)

set_option maxHeartbeats 1000000 in
theorem toSvs_row (b off cap : Nat) (ms : List Sv) (w : World) (hl : ms.length ≤ 1048576) (hb : b < w.heap.size)
    (hc : ∀ i, i < ms.length → SvIs w b (off + i * 13) (ms.getD i Sv.none)) :
    Calls Tryz.prog 21 #[.slice (some ⟨b, off, none⟩) ms.length cap] w fun e w' => e = .returned (.slice (some ⟨w.heap.size, 0, none⟩) ms.length ms.length) ∧ Below w.heap.size w w' ∧ OwnBlk w' w.heap.size 41 (ms.length * 13) ∧
      ∀ i, i < ms.length → SvIs w' w.heap.size (i * 13) (ms.getD i Sv.none) := by
  obtain ⟨cs, hcs, hmk⟩ := make_sv ms.length hl
  go_enter Tryz.func21, Tryz.ntmps21
  go_wp2
  go_loopw [4] (fun i wr => ∃ k : Nat, k ≤ ms.length ∧ i = .int .i64 k ∧ Below w.heap.size w wr ∧ OwnBlk wr w.heap.size 41 (ms.length * 13) ∧ ∀ i, i < k → SvIs wr w.heap.size (i * 13) (ms.getD i Sv.none)) (fun i _ => ms.length - (intOf i).toNat)
  case atStart => exact ⟨0, Nat.zero_le _, rfl, blw_alloc (Below.refl _ _) _, OwnBlk.alloc w cs 41 _ hcs, fun i hi => absurd hi (Nat.not_lt_zero i)⟩
  case round =>
    obtain ⟨k, hk, rfl, hB, hO, hall⟩ := hrel
    have HA : Hid (∀ i, i < k → SvIs wr w.heap.size (i * 13) (ms.getD i Sv.none)) := hall
    have HO : Hid (OwnBlk wr w.heap.size 41 (ms.length * 13)) := hO
    clear hall hmk hcs hO
    by_cases hlt : k < ms.length
    · have hf := (hc k hlt).later hB hb
      obtain ⟨m, hm⟩ : ∃ m, m = ms.getD k Sv.none := ⟨_, rfl⟩
      rw [← hm] at hf
      have HX : Hid (m.sized ∧ m = ms.getD k Sv.none) := ⟨hf.sized, hm⟩
      obtain ⟨c0, c1, c2, c3, c4, c5, c6, c7, c8, c9, c10, c11, c12, _⟩ := hf
      clear hm hc
      go_wp2_with fail
      refine (toSv m wr).mono ?_
      rintro e w2 ⟨rfl, hb2⟩
      have hB2 := blw_trans hB hb2
      have hO2 := HO.out.later hb2
      have HP : Hid (∀ v, v = [.string m.nm, .int .i64 m.ver, .bool m.gone, .int .i64 m.image, .int .i64 m.want, .int .i64 m.down, .int .i64 m.over, .int .i64 m.next, .int .i64 m.per, .int .i64 m.least, .int .i64 m.most, .int .i64 m.load, .int .i64 m.cool] →
          Below w.heap.size w (puts w2 w.heap.size (k * 13) 0 v) ∧ OwnBlk (puts w2 w.heap.size (k * 13) 0 v) w.heap.size 41 (ms.length * 13) ∧ ∀ i, i < k + 1 → SvIs (puts w2 w.heap.size (k * 13) 0 v) w.heap.size (i * 13) (ms.getD i Sv.none)) := by
        intro v hv
        subst hv
        refine ⟨puts_below (a := w) _ (Nat.le_refl _) _ _ _ hB2, puts_own _ _ _ _ hO2, fun i hi => ?_⟩
        by_cases hik : i < k
        · exact ((HA.out i hik).later hb2 HO.out.lt).puts (k * 13) _ (by omega)
        · obtain rfl : i = k := by omega
          rw [← HX.out.2]
          exact own_put_sv hO2 (i * 13) (by omega) m HX.out.1
      clear c0 c1 c2 c3 c4 c5 c6 c7 c8 c9 c10 c11 c12 HX
      have hfz := hO2.frozen
      obtain ⟨v0, o0⟩ := hO2.cell (k * 13) (by omega)
      obtain ⟨v1, o1⟩ := hO2.cell (k * 13 + 1) (by omega)
      obtain ⟨v2, o2⟩ := hO2.cell (k * 13 + 2) (by omega)
      obtain ⟨v3, o3⟩ := hO2.cell (k * 13 + 3) (by omega)
      obtain ⟨v4, o4⟩ := hO2.cell (k * 13 + 4) (by omega)
      obtain ⟨v5, o5⟩ := hO2.cell (k * 13 + 5) (by omega)
      obtain ⟨v6, o6⟩ := hO2.cell (k * 13 + 6) (by omega)
      obtain ⟨v7, o7⟩ := hO2.cell (k * 13 + 7) (by omega)
      obtain ⟨v8, o8⟩ := hO2.cell (k * 13 + 8) (by omega)
      obtain ⟨v9, o9⟩ := hO2.cell (k * 13 + 9) (by omega)
      obtain ⟨v10, o10⟩ := hO2.cell (k * 13 + 10) (by omega)
      obtain ⟨v11, o11⟩ := hO2.cell (k * 13 + 11) (by omega)
      obtain ⟨v12, o12⟩ := hO2.cell (k * 13 + 12) (by omega)
      clear hO2 hB2 hb2
      go_wp2
      go_roundw
      case rel => exact ⟨k + 1, by omega, by go_num, (HP.out _ rfl).1, (HP.out _ rfl).2.1, (HP.out _ rfl).2.2⟩
      case measure => simp [intOf]; omega
    · obtain rfl : k = ms.length := by omega
      go_wp2
      go_ret
      exact ⟨rfl, hB, HO.out, HA.out⟩

set_option maxHeartbeats 400000 in
theorem toSvs_nil (a : Option Addr) (cap : Nat) (w : World) :
    Calls Tryz.prog 21 #[.slice a 0 cap] w fun e w' => e = .returned (.slice (some ⟨w.heap.size, 0, none⟩) 0 0) ∧ ∃ cs : Array Value, cs.size = 0 ∧ w' = w.alloc (.cells cs 41) := by
  obtain ⟨cs, hcs0, hmk0⟩ := make_sv 0 (by omega)
  have hmk : ∀ W : World, (Instr.makeSlice 33 (.int .i64 0) (.int .i64 0)).run Tryz.prog W = .ok (.slice (some ⟨W.heap.size, 0, none⟩) 0 0) (W.alloc (.cells cs 41)) := hmk0
  clear hmk0
  go_enter Tryz.func21, Tryz.ntmps21
  go_wp2
  refine wp_loop_rounds 1 ?_
  rw [rounds_succ]
  go_wp2
  go_ret
  exact ⟨rfl, _, by omega, rfl⟩

theorem toSvs (v : Value) (ms : List Sv) (w : World) (hl : ms.length ≤ 1048576) (h : SvsAt w v ms) :
    Calls Tryz.prog 21 #[v] w fun e w' => e = .returned (.slice (some ⟨w.heap.size, 0, none⟩) ms.length ms.length) ∧ Below w.heap.size w w' ∧ SvsIn w' w.heap.size ms := by
  rcases h with ⟨a, cap, rfl, rfl⟩ | ⟨b, off, cap, rfl, hb, _, hc⟩
  · refine (toSvs_nil a cap w).mono ?_
    rintro e w' ⟨rfl, cs, hcs, rfl⟩
    exact ⟨rfl, blw_alloc (Below.refl _ _) _, ⟨by simp, by simp, fun i hi => absurd hi (Nat.not_lt_zero i), OwnBlk.alloc w cs _ _ (by simpa using hcs)⟩⟩
  · refine (toSvs_row b off cap ms w hl hb hc).mono ?_
    rintro e w' ⟨rfl, h1, h2, h3⟩
    exact ⟨rfl, h1, h2.lt, hl, h3, h2⟩

set_option maxHeartbeats 1000000 in
theorem eqSv (m : Sv) (w : World) :
    Calls Tryz.prog 62 #[.agg #[.string m.nm, .int .i64 m.ver, .bool m.gone, .int .i64 m.image, .int .i64 m.want, .int .i64 m.down, .int .i64 m.over, .int .i64 m.next, .int .i64 m.per, .int .i64 m.least, .int .i64 m.most, .int .i64 m.load, .int .i64 m.cool], .agg #[.string m.nm, .int .i64 m.ver, .bool m.gone, .int .i64 m.image, .int .i64 m.want, .int .i64 m.down, .int .i64 m.over, .int .i64 m.next, .int .i64 m.per, .int .i64 m.least, .int .i64 m.most, .int .i64 m.load, .int .i64 m.cool]] w fun e w' => e = .returned (.bool true) ∧ Below w.heap.size w w' := by
  go_enter Tryz.func62, Tryz.ntmps62
  go_wp2
  go_ret
  exact ⟨rfl, blw_alloc (blw_alloc (Below.refl _ _) _) _⟩

set_option maxHeartbeats 2000000 in
theorem eqSvs (B B' : Nat) (ms : List Sv) (w : World) (h : SvsIn w B ms) (h' : SvsIn w B' ms) :
    Calls Tryz.prog 29 #[.slice (some ⟨B, 0, none⟩) ms.length ms.length, .slice (some ⟨B', 0, none⟩) ms.length ms.length] w fun e w' => e = .returned (.bool true) ∧ Below w.heap.size w w' := by
  have hl := h.len
  have HH : Hid (SvsIn w B ms ∧ SvsIn w B' ms) := ⟨h, h'⟩
  clear h h'
  go_enter Tryz.func29, Tryz.ntmps29
  go_wp2
  go_loopw [5] (fun i wr => ∃ k : Nat, k ≤ ms.length ∧ i = .int .i64 k ∧ Below w.heap.size w wr) (fun i _ => ms.length - (intOf i).toNat)
  case atStart => exact ⟨0, Nat.zero_le _, rfl, Below.refl _ _⟩
  case round =>
    obtain ⟨k, hk, rfl, hW⟩ := hrel
    by_cases hlt : k < ms.length
    · have q := (HH.out.1.later hW).at_ k hlt
      have q' := (HH.out.2.later hW).at_ k hlt
      obtain ⟨m, hm⟩ : ∃ m, m = ms.getD k Sv.none := ⟨_, rfl⟩
      rw [← hm] at q q'
      obtain ⟨c0, c1, c2, c3, c4, c5, c6, c7, c8, c9, c10, c11, c12, _⟩ := q
      obtain ⟨d0, d1, d2, d3, d4, d5, d6, d7, d8, d9, d10, d11, d12, _⟩ := q'
      have HX : Hid (∀ W, Below wr.heap.size wr W → Calls Tryz.prog 62 #[.agg #[.string m.nm, .int .i64 m.ver, .bool m.gone, .int .i64 m.image, .int .i64 m.want, .int .i64 m.down, .int .i64 m.over, .int .i64 m.next, .int .i64 m.per, .int .i64 m.least, .int .i64 m.most, .int .i64 m.load, .int .i64 m.cool], .agg #[.string m.nm, .int .i64 m.ver, .bool m.gone, .int .i64 m.image, .int .i64 m.want, .int .i64 m.down, .int .i64 m.over, .int .i64 m.next, .int .i64 m.per, .int .i64 m.least, .int .i64 m.most, .int .i64 m.load, .int .i64 m.cool]] W fun e w' => e = .returned (.bool true) ∧ Below W.heap.size W w') := fun W _ => eqSv m W
      clear hm
      go_wp2_with fail
      go_region_with (go_at_call 62; refine (HX.out _ ?_).mono ?_; (repeat (first | exact Below.refl _ _ | refine Below.drew ?_)); rintro e w2 ⟨rfl, hb2⟩)
      all_goals
        go_wp2
        go_roundw
        case rel =>
          refine ⟨k + 1, by omega, by go_num, ?_⟩
          repeat (first | exact blw_trans hW hb2 | exact blw_trans hW.drew hb2 | exact blw_trans hW.drew.drew hb2 | refine Below.drew ?_)
        case measure => simp [intOf]; omega
    · go_wp2
      go_ret
      exact ⟨rfl, hW⟩

set_option maxHeartbeats 1000000 in
theorem szSv (m : Sv) (left : Int) (w : World) (h0 : 0 ≤ left) (h1 : left ≤ 1048576) (hs : m.sized) :
    Calls Tryz.prog 16 #[.agg #[.string m.nm, .int .i64 m.ver, .bool m.gone, .int .i64 m.image, .int .i64 m.want, .int .i64 m.down, .int .i64 m.over, .int .i64 m.next, .int .i64 m.per, .int .i64 m.least, .int .i64 m.most, .int .i64 m.load, .int .i64 m.cool], .int .i64 left] w fun e w' => (∃ r : Int, e = .returned (.int .i64 r) ∧ -1 ≤ r ∧ r ≤ left) ∧ Below w.heap.size w w' := by
  have s0 : m.nm.size ≤ maxLen := hs
  unfold maxLen at s0
  by_cases c0 : left < (m.nm.size : Int)
  all_goals
    go_enter Tryz.func16, Tryz.ntmps16
    go_wp2
    go_ret
    exact ⟨⟨_, rfl, by omega, by omega⟩, blw_alloc (Below.refl _ _) _⟩

set_option maxHeartbeats 1000000 in
theorem szSvs_row (b off cap : Nat) (ms : List Sv) (left : Int) (w : World) (h0 : 0 ≤ left) (h1 : left ≤ 1048576) (hb : b < w.heap.size) (hl : ms.length ≤ maxLen)
    (hc : ∀ i, i < ms.length → SvIs w b (off + i * 13) (ms.getD i Sv.none)) :
    Calls Tryz.prog 13 #[.slice (some ⟨b, off, none⟩) ms.length cap, .int .i64 left] w fun e w' => (∃ r : Int, e = .returned (.int .i64 r) ∧ szP ((ms.length : Int) ≤ left) left r) ∧ Below w.heap.size w w' := by
  unfold maxLen at hl
  by_cases hneg : left < (ms.length : Int)
  · go_enter Tryz.func13, Tryz.ntmps13
    go_wp2
    go_ret
    exact ⟨⟨_, rfl, by unfold szP; refine ⟨by omega, by omega, by omega⟩⟩, Below.refl _ _⟩
  · go_enter Tryz.func13, Tryz.ntmps13
    go_wp2
    go_loopw [1, 5] (fun l i wr => ∃ (k : Nat) (r : Int), k ≤ ms.length ∧ i = .int .i64 k ∧ l = .int .i64 r ∧ 0 ≤ r ∧ r ≤ left ∧ Below w.heap.size w wr) (fun _ i _ => ms.length - (intOf i).toNat)
    case atStart => exact ⟨0, _, Nat.zero_le _, rfl, rfl, by omega, by omega, Below.refl _ _⟩
    case round =>
      obtain ⟨k, r, hk, rfl, rfl, r0, r1, hB⟩ := hrel
      by_cases hlt : k < ms.length
      · have hf := (hc k hlt).later hB hb
        obtain ⟨m, hm⟩ : ∃ m, m = ms.getD k Sv.none := ⟨_, rfl⟩
        rw [← hm] at hf
        have HX : Hid (Calls Tryz.prog 16 #[.agg #[.string m.nm, .int .i64 m.ver, .bool m.gone, .int .i64 m.image, .int .i64 m.want, .int .i64 m.down, .int .i64 m.over, .int .i64 m.next, .int .i64 m.per, .int .i64 m.least, .int .i64 m.most, .int .i64 m.load, .int .i64 m.cool], .int .i64 r] wr fun e w' => (∃ r' : Int, e = .returned (.int .i64 r') ∧ -1 ≤ r' ∧ r' ≤ r) ∧ Below wr.heap.size wr w') :=
          szSv m r wr r0 (by omega) hf.sized
        obtain ⟨c0, c1, c2, c3, c4, c5, c6, c7, c8, c9, c10, c11, c12, _⟩ := hf
        clear hm hc
        go_wp2_with fail
        refine HX.out.mono ?_
        rintro e w2 ⟨⟨r', rfl, q1, q2⟩, hb2⟩
        have hB2 := blw_trans hB hb2
        clear hb2 c0 c1 c2 c3 c4 c5 c6 c7 c8 c9 c10 c11 c12 HX
        by_cases c2 : r' < 0
        · go_wp2
          go_ret
          exact ⟨⟨_, rfl, by unfold szP; refine ⟨by omega, by omega, by omega⟩⟩, hB2⟩
        · go_wp2
          go_roundw
          case rel => exact ⟨k + 1, _, by omega, by go_num, rfl, by omega, by omega, hB2⟩
          case measure => simp [intOf]; omega
      · go_wp2
        go_ret
        exact ⟨⟨_, rfl, by unfold szP; exact ⟨by omega, by omega, fun _ => by omega⟩⟩, hB⟩

set_option maxHeartbeats 400000 in
theorem szSvs_nil (a : Option Addr) (cap : Nat) (left : Int) (w : World) (h0 : 0 ≤ left) (h1 : left ≤ 1048576) :
    Calls Tryz.prog 13 #[.slice a 0 cap, .int .i64 left] w fun e w' => e = .returned (.int .i64 left) ∧ w = w' := by
  go_enter Tryz.func13, Tryz.ntmps13
  go_wp2
  refine wp_loop_rounds 1 ?_
  rw [rounds_succ]
  go_wp2
  go_ret
  exact ⟨Pl.ret_int (by omega), rfl⟩

theorem szSvs (v : Value) (ms : List Sv) (left : Int) (w : World) (h0 : 0 ≤ left) (h1 : left ≤ 1048576) (h : SvsAt w v ms) :
    Calls Tryz.prog 13 #[v, .int .i64 left] w fun e w' => (∃ r : Int, e = .returned (.int .i64 r) ∧ szP ((ms.length : Int) ≤ left) left r) ∧ Below w.heap.size w w' := by
  rcases h with ⟨a, cap, rfl, rfl⟩ | ⟨b, off, cap, rfl, hb, hl, hc⟩
  · refine (szSvs_nil a cap left w h0 h1).mono ?_
    rintro e w' ⟨rfl, rfl⟩
    exact ⟨⟨_, rfl, by unfold szP; exact ⟨by omega, by omega, fun _ => by simpa using h0⟩⟩, Below.refl _ _⟩
  · exact szSvs_row b off cap ms left w h0 h1 hb hl hc




end Go.Proofs.YtclagbakddkjcaaGreat
