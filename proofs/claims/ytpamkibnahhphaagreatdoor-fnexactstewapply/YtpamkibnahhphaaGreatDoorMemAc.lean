/-
  An act of a steward in memory: sizes, copies, equality.
-/
import Derived.Test.YtpamkibnahhphaaGreatDoorMemBt
import Derived.Test.YtpamkibnahhphaaGreatDoorMemSB
namespace Go.Proofs.YtpamkibnahhphaaGreatDoor
open Go.RowKit Go.Deep


structure En where
  num : Int
  seen : Int

def En.none : En := ⟨0, 0⟩

def En.sized (_m : En) : Prop := True

structure EnIs (w : World) (b o : Nat) (m : En) : Prop where
  c0 : w.cell? ⟨b, o, none⟩ = some (.int .i64 m.num)
  c1 : w.cell? ⟨b, o + 1, none⟩ = some (.int .i64 m.seen)
  sized : m.sized

theorem EnIs.later {w w' : World} {b o : Nat} {m : En} (h : EnIs w b o m) (hb : Below w.heap.size w w') (hlt : b < w.heap.size) : EnIs w' b o m := by
  have c : ∀ j, w'.cell? ⟨b, j, none⟩ = w.cell? ⟨b, j, none⟩ := fun j => hb.cell (p := ⟨b, j, none⟩) hlt
  exact ⟨(c _).trans h.c0, (c _).trans h.c1, h.sized⟩

def EnsAt (w : World) (v : Value) (ms : List En) : Prop :=
  (∃ a cap, v = .slice a 0 cap ∧ ms = []) ∨ ∃ b off cap, v = .slice (some ⟨b, off, none⟩) ms.length cap ∧ b < w.heap.size ∧ ms.length ≤ maxLen ∧ ∀ i, i < ms.length → EnIs w b (off + i * 2) (ms.getD i En.none)

theorem EnsAt.later {w w' : World} {v : Value} {ms : List En} (h : EnsAt w v ms) (hb : Below w.heap.size w w') : EnsAt w' v ms := by
  rcases h with h | ⟨b, off, cap, rfl, h1, h2, h3⟩
  · exact Or.inl h
  · exact Or.inr ⟨b, off, cap, rfl, Nat.lt_of_lt_of_le h1 hb.size, h2, fun i hi => (h3 i hi).later hb h1⟩

structure EnsIn (w : World) (B : Nat) (ms : List En) : Prop where
  lt : B < w.heap.size
  len : ms.length ≤ 1048576
  at_ : ∀ i, i < ms.length → EnIs w B (i * 2) (ms.getD i En.none)
  own : OwnBlk w B 96 (ms.length * 2)

theorem EnsIn.later {w w' : World} {B : Nat} {ms : List En} (h : EnsIn w B ms) (hb : Below w.heap.size w w') : EnsIn w' B ms :=
  ⟨Nat.lt_of_lt_of_le h.lt hb.size, h.len, fun i hi => (h.at_ i hi).later hb h.lt, h.own.later hb⟩

theorem EnsIn.sc {w : World} {B p : Nat} {ms : List En} (h : EnsIn w B ms) (hp : p < B) (j : Nat) (v : Value) : EnsIn (w.setCell ⟨p, j, none⟩ v) B ms := by
  have c : ∀ q, (w.setCell ⟨p, j, none⟩ v).cell? ⟨B, q, none⟩ = w.cell? ⟨B, q, none⟩ := fun q => sc_ne _ _ _ _ _ _ (by omega)
  exact ⟨by rw [sc_size]; exact h.lt, h.len, fun i hi => by have h := h.at_ i hi; exact ⟨(c _).trans h.c0, (c _).trans h.c1, h.sized⟩, h.own.sc_other (by omega) _ _⟩

theorem EnIs.puts {w : World} {B o : Nat} {m : En} (h : EnIs w B o m) (o' : Nat) (vs : List Value) (ho : o + 2 ≤ o') : EnIs (puts w B o' 0 vs) B o m := by
  have c : ∀ j, j < o' → (YtpamkibnahhphaaGreatDoor.puts w B o' 0 vs).cell? ⟨B, j, none⟩ = w.cell? ⟨B, j, none⟩ := fun j hj => puts_other B o' B j vs w 0 (by omega)
  exact ⟨(c _ (by omega)).trans h.c0, (c _ (by omega)).trans h.c1, h.sized⟩

theorem own_put_en {w : World} {B : Nat} {t : TypeId} {n : Nat} (hO : OwnBlk w B t n) (o : Nat) (ho : o + 2 ≤ n) (m : En) (hs : m.sized) :
    EnIs (puts w B o 0 [.int .i64 m.num, .int .i64 m.seen]) B o m := by
  have c := fun i hi => puts_at o [.int .i64 m.num, .int .i64 m.seen] w 0 hO (by simp; omega) i hi
  exact ⟨c 0 (by simp), c 1 (by simp), hs⟩

theorem Tryz.info96 : (Tryz.prog.info? 96).map (fun i => (i.zero, i.size, i.bytes)) = some (some (.agg #[.int .i64 0, .int .i64 0]), 2, 16) := by kernel_rfl

theorem Tryz.underlying40' : Tryz.prog.underlying 40 = some (.slice 96) := by kernel_rfl

theorem make_en (n : Nat) (h : n ≤ 1048576) : ∃ cs : Array Value, cs.size = n * 2 ∧ ∀ W : World,
    (Instr.makeSlice 40 (.int .i64 (n : Int)) (.int .i64 (n : Int))).run Tryz.prog W = .ok (.slice (some ⟨W.heap.size, 0, none⟩) n n) (W.alloc (.cells cs 96)) := by
  obtain ⟨i, hi, hzz⟩ := Option.map_eq_some_iff.1 Tryz.info96
  simp only [Prod.mk.injEq] at hzz
  obtain ⟨hz, hs, hb⟩ := hzz
  refine ⟨madeCells (Value.agg #[.int .i64 0, .int .i64 0]).cells (n * 2), size_madeCells _ _, fun W => ?_⟩
  have hr := run_make (P := Tryz.prog) W 40 96 i _ Tryz.underlying40' hi hz .i64 .i64 n n (by omega) (Int.le_refl _) (by rw [hb]; omega) (by omega)
  simp only [Int.toNat_natCast, hs] at hr
  exact hr

set_option maxHeartbeats 1000000 in
theorem toEn (m : En) (w : World) :
    Calls Tryz.prog 57 #[.agg #[.int .i64 m.num, .int .i64 m.seen]] w fun e w' => e = .returned (.agg #[.int .i64 m.num, .int .i64 m.seen]) ∧ Below w.heap.size w w' := by
  go_enter Tryz.func57, Tryz.ntmps57
  go_wp2
  refine bodyPost_ret (v := .agg #[.int .i64 m.num, .int .i64 m.seen]) (by simp [results, Tryz.results57, go_sem]) rfl ⟨rfl, ?_⟩
  repeat (first | exact Below.refl _ _ | refine blw_alloc ?_ _ | refine Below.setCell ?_ (by simp) _)

set_option maxHeartbeats 1000000 in
theorem toEns_row (b off cap : Nat) (ms : List En) (w : World) (hl : ms.length ≤ 1048576) (hb : b < w.heap.size)
    (hc : ∀ i, i < ms.length → EnIs w b (off + i * 2) (ms.getD i En.none)) :
    Calls Tryz.prog 25 #[.slice (some ⟨b, off, none⟩) ms.length cap] w fun e w' => e = .returned (.slice (some ⟨w.heap.size, 0, none⟩) ms.length ms.length) ∧ Below w.heap.size w w' ∧ OwnBlk w' w.heap.size 96 (ms.length * 2) ∧
      ∀ i, i < ms.length → EnIs w' w.heap.size (i * 2) (ms.getD i En.none) := by
  obtain ⟨cs, hcs, hmk⟩ := make_en ms.length hl
  go_enter Tryz.func25, Tryz.ntmps25
  go_wp2
  go_loopw [4] (fun i wr => ∃ k : Nat, k ≤ ms.length ∧ i = .int .i64 k ∧ Below w.heap.size w wr ∧ OwnBlk wr w.heap.size 96 (ms.length * 2) ∧ ∀ i, i < k → EnIs wr w.heap.size (i * 2) (ms.getD i En.none)) (fun i _ => ms.length - (intOf i).toNat)
  case atStart => exact ⟨0, Nat.zero_le _, rfl, blw_alloc (Below.refl _ _) _, OwnBlk.alloc w cs 96 _ hcs, fun i hi => absurd hi (Nat.not_lt_zero i)⟩
  case round =>
    obtain ⟨k, hk, rfl, hB, hO, hall⟩ := hrel
    have HA : Hid (∀ i, i < k → EnIs wr w.heap.size (i * 2) (ms.getD i En.none)) := hall
    have HO : Hid (OwnBlk wr w.heap.size 96 (ms.length * 2)) := hO
    clear hall hmk hcs hO
    by_cases hlt : k < ms.length
    · have hf := (hc k hlt).later hB hb
      obtain ⟨m, hm⟩ : ∃ m, m = ms.getD k En.none := ⟨_, rfl⟩
      rw [← hm] at hf
      have HX : Hid (m.sized ∧ m = ms.getD k En.none) := ⟨hf.sized, hm⟩
      obtain ⟨c0, c1, _⟩ := hf
      clear hm hc
      go_wp2_with fail
      refine (toEn m wr).mono ?_
      rintro e w2 ⟨rfl, hb2⟩
      have hB2 := blw_trans hB hb2
      have hO2 := HO.out.later hb2
      have HP : Hid (∀ v, v = [.int .i64 m.num, .int .i64 m.seen] →
          Below w.heap.size w (puts w2 w.heap.size (k * 2) 0 v) ∧ OwnBlk (puts w2 w.heap.size (k * 2) 0 v) w.heap.size 96 (ms.length * 2) ∧ ∀ i, i < k + 1 → EnIs (puts w2 w.heap.size (k * 2) 0 v) w.heap.size (i * 2) (ms.getD i En.none)) := by
        intro v hv
        subst hv
        refine ⟨puts_below (a := w) _ (Nat.le_refl _) _ _ _ hB2, puts_own _ _ _ _ hO2, fun i hi => ?_⟩
        by_cases hik : i < k
        · exact ((HA.out i hik).later hb2 HO.out.lt).puts (k * 2) _ (by omega)
        · obtain rfl : i = k := by omega
          rw [← HX.out.2]
          exact own_put_en hO2 (i * 2) (by omega) m HX.out.1
      clear c0 c1 HX
      have hfz := hO2.frozen
      obtain ⟨v0, o0⟩ := hO2.cell (k * 2) (by omega)
      obtain ⟨v1, o1⟩ := hO2.cell (k * 2 + 1) (by omega)
      clear hO2 hB2 hb2
      go_wp2
      go_roundw
      case rel => exact ⟨k + 1, by omega, by go_num, (HP.out _ rfl).1, (HP.out _ rfl).2.1, (HP.out _ rfl).2.2⟩
      case measure => simp [intOf]; omega
    · obtain rfl : k = ms.length := by omega
      go_wp2
      go_ret
      exact ⟨rfl, hB, HO.out, HA.out⟩

set_option maxHeartbeats 400000 in
theorem toEns_nil (a : Option Addr) (cap : Nat) (w : World) :
    Calls Tryz.prog 25 #[.slice a 0 cap] w fun e w' => e = .returned (.slice (some ⟨w.heap.size, 0, none⟩) 0 0) ∧ ∃ cs : Array Value, cs.size = 0 ∧ w' = w.alloc (.cells cs 96) := by
  obtain ⟨cs, hcs0, hmk0⟩ := make_en 0 (by omega)
  have hmk : ∀ W : World, (Instr.makeSlice 40 (.int .i64 0) (.int .i64 0)).run Tryz.prog W = .ok (.slice (some ⟨W.heap.size, 0, none⟩) 0 0) (W.alloc (.cells cs 96)) := hmk0
  clear hmk0
  go_enter Tryz.func25, Tryz.ntmps25
  go_wp2
  refine wp_loop_rounds 1 ?_
  rw [rounds_succ]
  go_wp2
  go_ret
  exact ⟨rfl, _, by omega, rfl⟩

theorem toEns (v : Value) (ms : List En) (w : World) (hl : ms.length ≤ 1048576) (h : EnsAt w v ms) :
    Calls Tryz.prog 25 #[v] w fun e w' => e = .returned (.slice (some ⟨w.heap.size, 0, none⟩) ms.length ms.length) ∧ Below w.heap.size w w' ∧ EnsIn w' w.heap.size ms := by
  rcases h with ⟨a, cap, rfl, rfl⟩ | ⟨b, off, cap, rfl, hb, _, hc⟩
  · refine (toEns_nil a cap w).mono ?_
    rintro e w' ⟨rfl, cs, hcs, rfl⟩
    exact ⟨rfl, blw_alloc (Below.refl _ _) _, ⟨by simp, by simp, fun i hi => absurd hi (Nat.not_lt_zero i), OwnBlk.alloc w cs _ _ (by simpa using hcs)⟩⟩
  · refine (toEns_row b off cap ms w hl hb hc).mono ?_
    rintro e w' ⟨rfl, h1, h2, h3⟩
    exact ⟨rfl, h1, h2.lt, hl, h3, h2⟩

set_option maxHeartbeats 1000000 in
theorem eqEn (m : En) (w : World) :
    Calls Tryz.prog 77 #[.agg #[.int .i64 m.num, .int .i64 m.seen], .agg #[.int .i64 m.num, .int .i64 m.seen]] w fun e w' => e = .returned (.bool true) ∧ Below w.heap.size w w' := by
  go_enter Tryz.func77, Tryz.ntmps77
  go_wp2
  go_ret
  exact ⟨rfl, blw_alloc (blw_alloc (Below.refl _ _) _) _⟩

set_option maxHeartbeats 2000000 in
theorem eqEns (B B' : Nat) (ms : List En) (w : World) (h : EnsIn w B ms) (h' : EnsIn w B' ms) :
    Calls Tryz.prog 33 #[.slice (some ⟨B, 0, none⟩) ms.length ms.length, .slice (some ⟨B', 0, none⟩) ms.length ms.length] w fun e w' => e = .returned (.bool true) ∧ Below w.heap.size w w' := by
  have hl := h.len
  have HH : Hid (EnsIn w B ms ∧ EnsIn w B' ms) := ⟨h, h'⟩
  clear h h'
  go_enter Tryz.func33, Tryz.ntmps33
  go_wp2
  go_loopw [5] (fun i wr => ∃ k : Nat, k ≤ ms.length ∧ i = .int .i64 k ∧ Below w.heap.size w wr) (fun i _ => ms.length - (intOf i).toNat)
  case atStart => exact ⟨0, Nat.zero_le _, rfl, Below.refl _ _⟩
  case round =>
    obtain ⟨k, hk, rfl, hW⟩ := hrel
    by_cases hlt : k < ms.length
    · have q := (HH.out.1.later hW).at_ k hlt
      have q' := (HH.out.2.later hW).at_ k hlt
      obtain ⟨m, hm⟩ : ∃ m, m = ms.getD k En.none := ⟨_, rfl⟩
      rw [← hm] at q q'
      obtain ⟨c0, c1, _⟩ := q
      obtain ⟨d0, d1, _⟩ := q'
      have HX : Hid (∀ W, Below wr.heap.size wr W → Calls Tryz.prog 77 #[.agg #[.int .i64 m.num, .int .i64 m.seen], .agg #[.int .i64 m.num, .int .i64 m.seen]] W fun e w' => e = .returned (.bool true) ∧ Below W.heap.size W w') := fun W _ => eqEn m W
      clear hm
      go_wp2_with fail
      go_region_with (go_at_call 77; refine (HX.out _ ?_).mono ?_; (repeat (first | exact Below.refl _ _ | refine Below.drew ?_)); rintro e w2 ⟨rfl, hb2⟩)
      all_goals
        go_wp2
        go_roundw
        case rel =>
          refine ⟨k + 1, by omega, by go_num, ?_⟩
          repeat (first | exact blw_trans hW hb2 | exact blw_trans hW.drew hb2 | exact blw_trans hW.drew.drew hb2 | refine Below.drew ?_)
        case measure => simp [intOf]; omega
    · go_wp2
      go_ret
      exact ⟨rfl, hW⟩

set_option maxHeartbeats 1000000 in
theorem szEns (v : Value) (ms : List En) (left : Int) (w : World) (h0 : 0 ≤ left) (h1 : left ≤ 1048576) (h : EnsAt w v ms) :
    Calls Tryz.prog 18 #[v, .int .i64 left] w fun e w' => (∃ r : Int, e = .returned (.int .i64 r) ∧ szP ((ms.length : Int) ≤ left) left r) ∧ Below w.heap.size w w' := by
  obtain ⟨a, cap, rfl, hl⟩ : ∃ a cap, v = .slice a ms.length cap ∧ ms.length ≤ maxLen := by
    rcases h with ⟨a, cap, rfl, rfl⟩ | ⟨b, off, cap, rfl, hb, hl, hc⟩
    · exact ⟨a, cap, rfl, by simp⟩
    · exact ⟨_, cap, rfl, hl⟩
  clear h
  unfold maxLen at hl
  by_cases hneg : left < (ms.length : Int)
  · go_enter Tryz.func18, Tryz.ntmps18
    go_wp2
    go_ret
    exact ⟨⟨_, rfl, by unfold szP; refine ⟨by omega, by omega, by omega⟩⟩, Below.refl _ _⟩
  · go_enter Tryz.func18, Tryz.ntmps18
    go_wp2
    go_ret
    exact ⟨⟨_, rfl, by unfold szP; exact ⟨by omega, by omega, fun _ => by first | trivial | omega⟩⟩, Below.refl _ _⟩

end Go.Proofs.YtpamkibnahhphaaGreatDoor

namespace Go.Proofs.YtpamkibnahhphaaGreatDoor
open Go.RowKit Go.Deep

theorem hidA {p : Prop} (h : p) : Hid p := h

structure BoxA (W : World) (p : Nat) (v0 v1 v2 v3 v4 v5 v6 v7 : Value) : Prop where
  lt : p < W.heap.size
  x0 : W.cell? ⟨p, 0, none⟩ = some v0
  x1 : W.cell? ⟨p, 1, none⟩ = some v1
  x2 : W.cell? ⟨p, 2, none⟩ = some v2
  x3 : W.cell? ⟨p, 3, none⟩ = some v3
  x4 : W.cell? ⟨p, 4, none⟩ = some v4
  x5 : W.cell? ⟨p, 5, none⟩ = some v5
  x6 : W.cell? ⟨p, 6, none⟩ = some v6
  x7 : W.cell? ⟨p, 7, none⟩ = some v7
theorem BoxA.later {W W' : World} {p : Nat} {v0 v1 v2 v3 v4 v5 v6 v7 : Value} (h : BoxA W p v0 v1 v2 v3 v4 v5 v6 v7) (hb : Below W.heap.size W W') : BoxA W' p v0 v1 v2 v3 v4 v5 v6 v7 := by
  have c : ∀ j, W'.cell? ⟨p, j, none⟩ = W.cell? ⟨p, j, none⟩ := fun j => hb.cell (p := ⟨p, j, none⟩) h.lt
  exact ⟨Nat.lt_of_lt_of_le h.lt hb.size, (c 0).trans h.x0, (c 1).trans h.x1, (c 2).trans h.x2, (c 3).trans h.x3, (c 4).trans h.x4, (c 5).trans h.x5, (c 6).trans h.x6, (c 7).trans h.x7⟩
theorem BoxA.new' (W : World) (p : Nat) (v0 v1 v2 v3 v4 v5 v6 v7 : Value) (t : TypeId) (hp : p = W.heap.size) : BoxA (W.alloc (.cells #[v0, v1, v2, v3, v4, v5, v6, v7] t)) p v0 v1 v2 v3 v4 v5 v6 v7 := by
  subst hp
  have c : ∀ j, (W.alloc (.cells #[v0, v1, v2, v3, v4, v5, v6, v7] t)).cell? ⟨W.heap.size, j, none⟩ = (#[v0, v1, v2, v3, v4, v5, v6, v7])[j]? := fun j => World.cell?_alloc_at _ _ _ _ rfl
  exact ⟨by simp, c 0, c 1, c 2, c 3, c 4, c 5, c 6, c 7⟩
theorem BoxA.past {W : World} {p : Nat} {v0 v1 v2 v3 v4 v5 v6 v7 : Value} (h : BoxA W p v0 v1 v2 v3 v4 v5 v6 v7) (o : Obj) : BoxA (W.alloc o) p v0 v1 v2 v3 v4 v5 v6 v7 := h.later (blw_alloc (Below.refl _ _) o)

structure Ac where
  svc : ByteArray
  seen : Int
  create : Int
  want : Int
  cool : Int
  scale : Bool
  ends : List En
  drop : Bool
structure AcAt (w : World) (v : Value) (X : Ac) : Prop where
  sized : X.svc.size ≤ maxLen
  e : EnsAt w v X.ends
def Ac.small (X : Ac) : Prop := X.ends.length ≤ 1048576
theorem AcAt.later {w w' : World} {v : Value} {X : Ac} (h : AcAt w v X) (hb : Below w.heap.size w w') : AcAt w' v X := ⟨h.sized, h.e.later hb⟩

set_option maxHeartbeats 4000000 in
theorem szAc (X : Ac) (v : Value) (left : Int) (w : World) (h0 : 0 ≤ left) (h1 : left ≤ 1048576) (h : AcAt w v X) :
    Calls Tryz.prog 5 #[.agg #[.string X.svc, .int .i64 X.seen, .int .i64 X.create, .int .i64 X.want, .int .i64 X.cool, .bool X.scale, v, .bool X.drop], .int .i64 left] w fun e w' => (∃ r : Int, e = .returned (.int .i64 r) ∧ szP X.small left r) ∧ Below w.heap.size w w' := by
  have hsz := h.sized
  unfold maxLen at hsz
  have HH := hidA h
  clear h
  obtain ⟨wa, hwa⟩ : ∃ wa, wa = w.alloc (.cells #[.string X.svc, .int .i64 X.seen, .int .i64 X.create, .int .i64 X.want, .int .i64 X.cool, .bool X.scale, v, .bool X.drop] 29) := ⟨_, rfl⟩
  have HBa : Hid (Below w.heap.size w wa) := by show Below _ _ _; rw [hwa]; exact blw_alloc (Below.refl _ _) _
  have HXa : Hid (BoxA wa w.heap.size (.string X.svc) (.int .i64 X.seen) (.int .i64 X.create) (.int .i64 X.want) (.int .i64 X.cool) (.bool X.scale) (v) (.bool X.drop)) := by show BoxA _ _ _ _ _ _ _ _ _ _ ; rw [hwa]; exact BoxA.new' w _ _ _ _ _ _ _ _ _ _ rfl
  go_enter Tryz.func5, Tryz.ntmps5
  go_upto_region 1 with fail
  rw [← hwa]
  clear hwa
  obtain ⟨yz, y0, y1, y2, y3, y4, y5, y6, y7⟩ := HXa.out
  by_cases hneg : left < (X.svc.size : Int)
  · go_wp2
    go_ret
    exact ⟨⟨_, rfl, by unfold szP; exact ⟨by omega, by omega, by omega⟩⟩, HBa.out⟩
  go_wp2_with fail
  refine (szEns v X.ends (left - (X.svc.size : Int)) wa (by omega) (by omega) (HH.out.later HBa.out).e).mono ?_
  rintro e wb ⟨⟨r, rfl, hr⟩, hb⟩
  have HR := hidA hr
  have q0 : -1 ≤ r := hr.1
  have q0' : r ≤ left - (X.svc.size : Int) := hr.2.1
  have HBb := hidA (blw_trans HBa.out hb)
  clear hr hb yz y0 y1 y2 y3 y4 y5 y6 y7 HXa HBa
  by_cases c0 : r < 0
  · go_wp2
    go_ret
    exact ⟨⟨_, rfl, by unfold szP; exact ⟨by omega, by omega, by omega⟩⟩, HBb.out⟩
  go_wp2
  go_ret
  refine ⟨⟨_, rfl, ?_⟩, HBb.out⟩
  have k0 := HR.out.2.2 (by omega)
  unfold szP Ac.small
  exact ⟨by omega, by omega, fun _ => by omega⟩

set_option maxHeartbeats 8000000 in
theorem eqAc (X : Ac) (b q : Nat) (w : World) (h : EnsIn w b X.ends) (h' : EnsIn w q X.ends) :
    Calls Tryz.prog 11 #[.agg #[.string X.svc, .int .i64 X.seen, .int .i64 X.create, .int .i64 X.want, .int .i64 X.cool, .bool X.scale, .slice (some ⟨b, 0, none⟩) X.ends.length X.ends.length, .bool X.drop], .agg #[.string X.svc, .int .i64 X.seen, .int .i64 X.create, .int .i64 X.want, .int .i64 X.cool, .bool X.scale, .slice (some ⟨q, 0, none⟩) X.ends.length X.ends.length, .bool X.drop]] w fun e w' => e = .returned (.bool true) ∧ Below w.heap.size w w' := by
  have HH := hidA h
  have HH' := hidA h'
  have hsc : (X.scale != X.scale) = false := by cases X.scale <;> rfl
  have hdr : (X.drop != X.drop) = false := by cases X.drop <;> rfl
  clear h h'
  obtain ⟨wa, hwa⟩ : ∃ wa, wa = (w.alloc (.cells #[.string X.svc, .int .i64 X.seen, .int .i64 X.create, .int .i64 X.want, .int .i64 X.cool, .bool X.scale, .slice (some ⟨b, 0, none⟩) X.ends.length X.ends.length, .bool X.drop] 42)).alloc (.cells #[.string X.svc, .int .i64 X.seen, .int .i64 X.create, .int .i64 X.want, .int .i64 X.cool, .bool X.scale, .slice (some ⟨q, 0, none⟩) X.ends.length X.ends.length, .bool X.drop] 42) := ⟨_, rfl⟩
  have HBa : Hid (Below w.heap.size w wa) := by show Below _ _ _; rw [hwa]; exact blw_alloc (blw_alloc (Below.refl _ _) _) _
  have HXa : Hid (BoxA wa w.heap.size (.string X.svc) (.int .i64 X.seen) (.int .i64 X.create) (.int .i64 X.want) (.int .i64 X.cool) (.bool X.scale) (.slice (some ⟨b, 0, none⟩) X.ends.length X.ends.length) (.bool X.drop)) := by show BoxA _ _ _ _ _ _ _ _ _ _ ; rw [hwa]; exact (BoxA.new' w _ _ _ _ _ _ _ _ _ _ rfl).past _
  have HYa : Hid (BoxA wa (w.heap.size + 1) (.string X.svc) (.int .i64 X.seen) (.int .i64 X.create) (.int .i64 X.want) (.int .i64 X.cool) (.bool X.scale) (.slice (some ⟨q, 0, none⟩) X.ends.length X.ends.length) (.bool X.drop)) := by show BoxA _ _ _ _ _ _ _ _ _ _ ; rw [hwa]; exact BoxA.new' _ _ _ _ _ _ _ _ _ _ _ (by simp)
  go_enter Tryz.func11, Tryz.ntmps11
  go_upto_region 1 with fail
  rw [← hwa]
  clear hwa
  obtain ⟨yz, y0, y1, y2, y3, y4, y5, y6, y7⟩ := HXa.out
  obtain ⟨xz, x0, x1, x2, x3, x4, x5, x6, x7⟩ := HYa.out
  go_wp2_with fail
  refine (eqEns b q X.ends wa (HH.out.later HBa.out) (HH'.out.later HBa.out)).mono ?_
  rintro e wb ⟨rfl, hb⟩
  have HBb := hidA (blw_trans HBa.out hb)
  have HXb := hidA (HXa.out.later hb)
  have HYb := hidA (HYa.out.later hb)
  clear hb yz y0 y1 y2 y3 y4 y5 y6 y7 xz x0 x1 x2 x3 x4 x5 x6 x7 HXa HYa HBa
  obtain ⟨yz, y0, y1, y2, y3, y4, y5, y6, y7⟩ := HXb.out
  obtain ⟨xz, x0, x1, x2, x3, x4, x5, x6, x7⟩ := HYb.out
  go_wp2
  go_ret
  exact ⟨rfl, HBb.out⟩

set_option maxHeartbeats 8000000 in
theorem toAc (X : Ac) (v : Value) (w : World) (hs : X.small) (h : AcAt w v X) :
    Calls Tryz.prog 8 #[.agg #[.string X.svc, .int .i64 X.seen, .int .i64 X.create, .int .i64 X.want, .int .i64 X.cool, .bool X.scale, v, .bool X.drop]] w fun e w' => (∃ b, e = .returned (.agg #[.string X.svc, .int .i64 X.seen, .int .i64 X.create, .int .i64 X.want, .int .i64 X.cool, .bool X.scale, .slice (some ⟨b, 0, none⟩) X.ends.length X.ends.length, .bool X.drop]) ∧ EnsIn w' b X.ends ∧ w.heap.size ≤ b) ∧ Below w.heap.size w w' := by
  have HH := hidA h
  have HS : Hid (X.ends.length ≤ 1048576) := hs
  clear h hs
  obtain ⟨wa, hwa⟩ : ∃ wa, wa = ((w.alloc (.cells #[.string X.svc, .int .i64 X.seen, .int .i64 X.create, .int .i64 X.want, .int .i64 X.cool, .bool X.scale, v, .bool X.drop] 29)).alloc (.cells #[.string ⟨#[]⟩, .int .i64 0, .int .i64 0, .int .i64 0, .int .i64 0, .bool false, .slice none 0 0, .bool false] 42)).alloc (.cells #[.string X.svc, .int .i64 X.seen, .int .i64 X.create, .int .i64 X.want, .int .i64 X.cool, .bool X.scale, .slice none 0 0, .bool false] 42) := ⟨_, rfl⟩
  have HBa : Hid (Below w.heap.size w wa) := by show Below _ _ _; rw [hwa]; exact blw_alloc (blw_alloc (blw_alloc (Below.refl _ _) _) _) _
  have HXa : Hid (BoxA wa w.heap.size (.string X.svc) (.int .i64 X.seen) (.int .i64 X.create) (.int .i64 X.want) (.int .i64 X.cool) (.bool X.scale) (v) (.bool X.drop)) := by show BoxA _ _ _ _ _ _ _ _ _ _ ; rw [hwa]; exact ((BoxA.new' w _ _ _ _ _ _ _ _ _ _ rfl).past _).past _
  have HOa : Hid (OwnBlk wa (w.heap.size + 2) 42 8) := by show OwnBlk _ _ _ _; rw [hwa]; exact OwnBlk.alloc_at2 _ _ _ _ _ rfl (by simp)
  have HRa : Hid (OwnBlk wa (w.heap.size + 1) 42 8) := by show OwnBlk _ _ _ _; rw [hwa]; exact (OwnBlk.alloc_at2 _ _ _ _ _ rfl (by simp)).past _
  have HCa : Hid (wa.cell? ⟨w.heap.size + 2, 0, none⟩ = some (.string X.svc) ∧ wa.cell? ⟨w.heap.size + 2, 1, none⟩ = some (.int .i64 X.seen) ∧ wa.cell? ⟨w.heap.size + 2, 2, none⟩ = some (.int .i64 X.create) ∧ wa.cell? ⟨w.heap.size + 2, 3, none⟩ = some (.int .i64 X.want) ∧ wa.cell? ⟨w.heap.size + 2, 4, none⟩ = some (.int .i64 X.cool) ∧ wa.cell? ⟨w.heap.size + 2, 5, none⟩ = some (.bool X.scale)) := by show _ ∧ _ ∧ _ ∧ _ ∧ _ ∧ _; rw [hwa]; exact ⟨World.cell?_alloc_at _ _ _ _ (by simp), World.cell?_alloc_at _ _ _ _ (by simp), World.cell?_alloc_at _ _ _ _ (by simp), World.cell?_alloc_at _ _ _ _ (by simp), World.cell?_alloc_at _ _ _ _ (by simp), World.cell?_alloc_at _ _ _ _ (by simp)⟩
  have HZa : Hid (w.heap.size + 3 ≤ wa.heap.size) := by show _ ≤ _; rw [hwa]; simp
  go_enter Tryz.func8, Tryz.ntmps8
  go_upto_region 8 with fail
  rw [← hwa]
  clear hwa
  obtain ⟨yz, y0, y1, y2, y3, y4, y5, y6, y7⟩ := HXa.out
  go_wp2_with fail
  refine (toEns v X.ends wa HS.out (HH.out.later HBa.out).e).mono ?_
  rintro e wb ⟨rfl, hb, hi⟩
  obtain ⟨p, hp⟩ : ∃ p, p = wa.heap.size := ⟨_, rfl⟩
  rw [← hp] at hi ⊢
  have HP : Hid (w.heap.size + 3 ≤ p) := by show _ ≤ _; rw [hp]; exact HZa.out
  clear hp
  have HOb := hidA (HOa.out.later hb)
  have HRb := hidA (HRa.out.later hb)
  have HXb := hidA (HXa.out.later hb)
  have HBb := hidA (blw_trans HBa.out hb)
  have HCb : Hid (wb.cell? ⟨w.heap.size + 2, 0, none⟩ = some (.string X.svc) ∧ wb.cell? ⟨w.heap.size + 2, 1, none⟩ = some (.int .i64 X.seen) ∧ wb.cell? ⟨w.heap.size + 2, 2, none⟩ = some (.int .i64 X.create) ∧ wb.cell? ⟨w.heap.size + 2, 3, none⟩ = some (.int .i64 X.want) ∧ wb.cell? ⟨w.heap.size + 2, 4, none⟩ = some (.int .i64 X.cool) ∧ wb.cell? ⟨w.heap.size + 2, 5, none⟩ = some (.bool X.scale)) := ⟨(hb.cell (p := ⟨w.heap.size + 2, 0, none⟩) HOa.out.lt).trans HCa.out.1, (hb.cell (p := ⟨w.heap.size + 2, 1, none⟩) HOa.out.lt).trans HCa.out.2.1, (hb.cell (p := ⟨w.heap.size + 2, 2, none⟩) HOa.out.lt).trans HCa.out.2.2.1, (hb.cell (p := ⟨w.heap.size + 2, 3, none⟩) HOa.out.lt).trans HCa.out.2.2.2.1, (hb.cell (p := ⟨w.heap.size + 2, 4, none⟩) HOa.out.lt).trans HCa.out.2.2.2.2.1, (hb.cell (p := ⟨w.heap.size + 2, 5, none⟩) HOa.out.lt).trans HCa.out.2.2.2.2.2⟩
  clear yz y0 y1 y2 y3 y4 y5 y6 y7
  obtain ⟨yz, y0, y1, y2, y3, y4, y5, y6, y7⟩ := HXb.out
  obtain ⟨wc, hw⟩ : ∃ wc, wc = puts wb (w.heap.size + 2) 6 0 [.slice (some ⟨p, 0, none⟩) X.ends.length X.ends.length, .bool X.drop] := ⟨_, rfl⟩
  have HBc : Hid (Below w.heap.size w wc) := by show Below _ _ _; rw [hw]; exact puts_below (a := w) _ (by omega) _ _ _ HBb.out
  have HOc : Hid (OwnBlk wc (w.heap.size + 2) 42 8) := by show OwnBlk _ _ _ _; rw [hw]; exact puts_own _ _ _ _ HOb.out
  have HRc : Hid (OwnBlk wc (w.heap.size + 1) 42 8) := by show OwnBlk _ _ _ _; rw [hw]; exact own_puts_other _ (by omega) _ _ _ HRb.out
  have HCc : Hid (wc.cell? ⟨w.heap.size + 2, 0, none⟩ = some (.string X.svc) ∧ wc.cell? ⟨w.heap.size + 2, 1, none⟩ = some (.int .i64 X.seen) ∧ wc.cell? ⟨w.heap.size + 2, 2, none⟩ = some (.int .i64 X.create) ∧ wc.cell? ⟨w.heap.size + 2, 3, none⟩ = some (.int .i64 X.want) ∧ wc.cell? ⟨w.heap.size + 2, 4, none⟩ = some (.int .i64 X.cool) ∧ wc.cell? ⟨w.heap.size + 2, 5, none⟩ = some (.bool X.scale) ∧ wc.cell? ⟨w.heap.size + 2, 6, none⟩ = some (.slice (some ⟨p, 0, none⟩) X.ends.length X.ends.length) ∧ wc.cell? ⟨w.heap.size + 2, 7, none⟩ = some (.bool X.drop)) := by
    show _ ∧ _ ∧ _ ∧ _ ∧ _ ∧ _ ∧ _ ∧ _
    rw [hw]
    have pp := fun i hi => puts_at 6 [.slice (some ⟨p, 0, none⟩) X.ends.length X.ends.length, .bool X.drop] wb 0 HOb.out (by simp) i hi
    have c : ∀ j, j < 6 → (puts wb (w.heap.size + 2) 6 0 [.slice (some ⟨p, 0, none⟩) X.ends.length X.ends.length, .bool X.drop]).cell? ⟨w.heap.size + 2, j, none⟩ = wb.cell? ⟨w.heap.size + 2, j, none⟩ := fun j hj => puts_other _ _ _ _ _ _ _ (Or.inr (Or.inl (by omega)))
    exact ⟨(c 0 (by omega)).trans HCb.out.1, (c 1 (by omega)).trans HCb.out.2.1, (c 2 (by omega)).trans HCb.out.2.2.1, (c 3 (by omega)).trans HCb.out.2.2.2.1, (c 4 (by omega)).trans HCb.out.2.2.2.2.1, (c 5 (by omega)).trans HCb.out.2.2.2.2.2, pp 0 (by simp), pp 1 (by simp)⟩
  have HIc : Hid (EnsIn wc p X.ends) := by
    show EnsIn _ _ _
    rw [hw]
    have h3 := HP.out
    exact ((hi.sc (p := w.heap.size + 2) (by omega) 6 _).sc (p := w.heap.size + 2) (by omega) 7 _)
  have hfz := HOb.out.frozen
  have hz := HOb.out.lt
  obtain ⟨z6, ez6⟩ := HOb.out.cell 6 (by omega)
  obtain ⟨z7, ez7⟩ := HOb.out.cell 7 (by omega)
  have hw2 : wc = (wb.setCell ⟨w.heap.size + 2, 6, none⟩ (.slice (some ⟨p, 0, none⟩) X.ends.length X.ends.length)).setCell ⟨w.heap.size + 2, 7, none⟩ (.bool X.drop) := hw
  clear hw
  go_upto_region 10 with fail
  rw [← hw2]
  clear hw2 hfz hz ez6 ez7 hb hi yz y0 y1 y2 y3 y4 y5 y6 y7 HBa HXa HOa HRa HZa HCa HBb HXb HOb HRb HCb
  obtain ⟨d0, d1, d2, d3, d4, d5, d6, d7⟩ := HCc.out
  have dz := HOc.out.lt
  have hfz := HRc.out.frozen
  have hz := HRc.out.lt
  obtain ⟨z0, e0⟩ := HRc.out.cell 0 (by omega)
  obtain ⟨z1, e1⟩ := HRc.out.cell 1 (by omega)
  obtain ⟨z2, e2⟩ := HRc.out.cell 2 (by omega)
  obtain ⟨z3, e3⟩ := HRc.out.cell 3 (by omega)
  obtain ⟨z4, e4⟩ := HRc.out.cell 4 (by omega)
  obtain ⟨z5, e5⟩ := HRc.out.cell 5 (by omega)
  obtain ⟨z6, e6⟩ := HRc.out.cell 6 (by omega)
  obtain ⟨z7, e7⟩ := HRc.out.cell 7 (by omega)
  go_wp2
  have p' := fun i hi => puts_at 0 [.string X.svc, .int .i64 X.seen, .int .i64 X.create, .int .i64 X.want, .int .i64 X.cool, .bool X.scale, .slice (some ⟨p, 0, none⟩) X.ends.length X.ends.length, .bool X.drop] wc 0 HRc.out (by simp) i hi
  have t0 := p' 0 (by simp)
  have t1 := p' 1 (by simp)
  have t2 := p' 2 (by simp)
  have t3 := p' 3 (by simp)
  have t4 := p' 4 (by simp)
  have t5 := p' 5 (by simp)
  have t6 := p' 6 (by simp)
  have t7 := p' 7 (by simp)
  simp only [puts, Nat.add_zero, Nat.zero_add, Nat.reduceAdd, List.getElem?_cons_zero, List.getElem?_cons_succ] at t0 t1 t2 t3 t4 t5 t6 t7
  have HQ : Hid (EnsIn (puts wc (w.heap.size + 1) 0 0 [.string X.svc, .int .i64 X.seen, .int .i64 X.create, .int .i64 X.want, .int .i64 X.cool, .bool X.scale, .slice (some ⟨p, 0, none⟩) X.ends.length X.ends.length, .bool X.drop]) p X.ends) := by
    have h3 := HP.out
    exact ((((((((HIc.out.sc (p := w.heap.size + 1) (by omega) 0 _).sc (p := w.heap.size + 1) (by omega) 1 _).sc (p := w.heap.size + 1) (by omega) 2 _).sc (p := w.heap.size + 1) (by omega) 3 _).sc (p := w.heap.size + 1) (by omega) 4 _).sc (p := w.heap.size + 1) (by omega) 5 _).sc (p := w.heap.size + 1) (by omega) 6 _).sc (p := w.heap.size + 1) (by omega) 7 _)
  refine bodyPost_ret (v := .agg #[.string X.svc, .int .i64 X.seen, .int .i64 X.create, .int .i64 X.want, .int .i64 X.cool, .bool X.scale, .slice (some ⟨p, 0, none⟩) X.ends.length X.ends.length, .bool X.drop]) (by simp [results, Tryz.results8, go_sem, t0, t1, t2, t3, t4, t5, t6, t7]) rfl ⟨⟨p, rfl, HQ.out, by have := HP.out; omega⟩, ?_⟩
  exact puts_below (a := w) 0 (B := w.heap.size + 1) (by omega) [.string X.svc, .int .i64 X.seen, .int .i64 X.create, .int .i64 X.want, .int .i64 X.cool, .bool X.scale, .slice (some ⟨p, 0, none⟩) X.ends.length X.ends.length, .bool X.drop] wc 0 HBc.out

end Go.Proofs.YtpamkibnahhphaaGreatDoor
