/-
  Slots: as they lie in memory; sizes, copies, equality.
-/
import Derived.Test.YtnjomikieiocpaaOwn
import Derived.Test.YtnjomikieiocpaaPlain
namespace Go.Proofs.Ytnjomikieiocpaa
open Go.RowKit Go.Deep

theorem sc_size (w : World) (a : Addr) (v : Value) : (w.setCell a v).heap.size = w.heap.size := by simp [World.setCell]

structure Rs where
  bal : Int
  txt : ByteArray

def Rs.none : Rs := ⟨0, ByteArray.empty⟩

def Rs.sized (m : Rs) : Prop := m.txt.size ≤ maxLen

structure RsIs (w : World) (b o : Nat) (m : Rs) : Prop where
  c0 : w.cell? ⟨b, o, none⟩ = some (.int .i64 m.bal)
  c1 : w.cell? ⟨b, o + 1, none⟩ = some (.string m.txt)
  sized : m.sized

theorem RsIs.later {w w' : World} {b o : Nat} {m : Rs} (h : RsIs w b o m) (hb : Below w.heap.size w w') (hlt : b < w.heap.size) : RsIs w' b o m := by
  have c : ∀ j, w'.cell? ⟨b, j, none⟩ = w.cell? ⟨b, j, none⟩ := fun j => hb.cell (p := ⟨b, j, none⟩) hlt
  exact ⟨(c _).trans h.c0, (c _).trans h.c1, h.sized⟩

def RssAt (w : World) (v : Value) (ms : List Rs) : Prop :=
  (∃ a cap, v = .slice a 0 cap ∧ ms = []) ∨ ∃ b off cap, v = .slice (some ⟨b, off, none⟩) ms.length cap ∧ b < w.heap.size ∧ ms.length ≤ maxLen ∧ ∀ i, i < ms.length → RsIs w b (off + i * 2) (ms.getD i Rs.none)

theorem RssAt.later {w w' : World} {v : Value} {ms : List Rs} (h : RssAt w v ms) (hb : Below w.heap.size w w') : RssAt w' v ms := by
  rcases h with h | ⟨b, off, cap, rfl, h1, h2, h3⟩
  · exact Or.inl h
  · exact Or.inr ⟨b, off, cap, rfl, Nat.lt_of_lt_of_le h1 hb.size, h2, fun i hi => (h3 i hi).later hb h1⟩

structure RssIn (w : World) (B : Nat) (ms : List Rs) : Prop where
  lt : B < w.heap.size
  len : ms.length ≤ 1048576
  at_ : ∀ i, i < ms.length → RsIs w B (i * 2) (ms.getD i Rs.none)
  own : OwnBlk w B 66 (ms.length * 2)

theorem RssIn.later {w w' : World} {B : Nat} {ms : List Rs} (h : RssIn w B ms) (hb : Below w.heap.size w w') : RssIn w' B ms :=
  ⟨Nat.lt_of_lt_of_le h.lt hb.size, h.len, fun i hi => (h.at_ i hi).later hb h.lt, h.own.later hb⟩

theorem RssIn.sc {w : World} {B p : Nat} {ms : List Rs} (h : RssIn w B ms) (hp : p < B) (j : Nat) (v : Value) : RssIn (w.setCell ⟨p, j, none⟩ v) B ms := by
  have c : ∀ q, (w.setCell ⟨p, j, none⟩ v).cell? ⟨B, q, none⟩ = w.cell? ⟨B, q, none⟩ := fun q => sc_ne _ _ _ _ _ _ (by omega)
  exact ⟨by rw [sc_size]; exact h.lt, h.len, fun i hi => by have h := h.at_ i hi; exact ⟨(c _).trans h.c0, (c _).trans h.c1, h.sized⟩, h.own.sc_other (by omega) _ _⟩

theorem RsIs.puts {w : World} {B o : Nat} {m : Rs} (h : RsIs w B o m) (o' : Nat) (vs : List Value) (ho : o + 2 ≤ o') : RsIs (puts w B o' 0 vs) B o m := by
  have c : ∀ j, j < o' → (Ytnjomikieiocpaa.puts w B o' 0 vs).cell? ⟨B, j, none⟩ = w.cell? ⟨B, j, none⟩ := fun j hj => puts_other B o' B j vs w 0 (by omega)
  exact ⟨(c _ (by omega)).trans h.c0, (c _ (by omega)).trans h.c1, h.sized⟩

theorem own_put_rs {w : World} {B : Nat} {t : TypeId} {n : Nat} (hO : OwnBlk w B t n) (o : Nat) (ho : o + 2 ≤ n) (m : Rs) (hs : m.sized) :
    RsIs (puts w B o 0 [.int .i64 m.bal, .string m.txt]) B o m := by
  have c := fun i hi => puts_at o [.int .i64 m.bal, .string m.txt] w 0 hO (by simp; omega) i hi
  exact ⟨c 0 (by simp), c 1 (by simp), hs⟩

theorem Try.info66 : (Try.prog.info? 66).map (fun i => (i.zero, i.size, i.bytes)) = some (some (.agg #[.int .i64 0, .string ByteArray.empty]), 2, 24) := by kernel_rfl

theorem Try.underlying32' : Try.prog.underlying 32 = some (.slice 66) := by kernel_rfl

theorem make_rs (n : Nat) (h : n ≤ 1048576) : ∃ cs : Array Value, cs.size = n * 2 ∧ ∀ W : World,
    (Instr.makeSlice 32 (.int .i64 (n : Int)) (.int .i64 (n : Int))).run Try.prog W = .ok (.slice (some ⟨W.heap.size, 0, none⟩) n n) (W.alloc (.cells cs 66)) := by
  obtain ⟨i, hi, hzz⟩ := Option.map_eq_some_iff.1 Try.info66
  simp only [Prod.mk.injEq] at hzz
  obtain ⟨hz, hs, hb⟩ := hzz
  refine ⟨madeCells (Value.agg #[.int .i64 0, .string ByteArray.empty]).cells (n * 2), size_madeCells _ _, fun W => ?_⟩
  have hr := run_make (P := Try.prog) W 32 66 i _ Try.underlying32' hi hz .i64 .i64 n n (by omega) (Int.le_refl _) (by rw [hb]; omega) (by omega)
  simp only [Int.toNat_natCast, hs] at hr
  exact hr

set_option maxHeartbeats 1000000 in
theorem eqRs (m : Rs) (w : World) :
    Calls Try.prog 40 #[.agg #[.int .i64 m.bal, .string m.txt], .agg #[.int .i64 m.bal, .string m.txt]] w fun e w' => e = .returned (.bool true) ∧ Below w.heap.size w w' := by
  go_enter Try.func40, Try.ntmps40
  go_wp2
  go_ret
  exact ⟨rfl, blw_alloc (blw_alloc (Below.refl _ _) _) _⟩

set_option maxHeartbeats 2000000 in
theorem eqRss (B B' : Nat) (ms : List Rs) (w : World) (h : RssIn w B ms) (h' : RssIn w B' ms) :
    Calls Try.prog 38 #[.slice (some ⟨B, 0, none⟩) ms.length ms.length, .slice (some ⟨B', 0, none⟩) ms.length ms.length] w fun e w' => e = .returned (.bool true) ∧ Below w.heap.size w w' := by
  have hl := h.len
  have HH : Hid (RssIn w B ms ∧ RssIn w B' ms) := ⟨h, h'⟩
  clear h h'
  go_enter Try.func38, Try.ntmps38
  go_wp2
  go_loopw [5] (fun i wr => ∃ k : Nat, k ≤ ms.length ∧ i = .int .i64 k ∧ Below w.heap.size w wr) (fun i _ => ms.length - (intOf i).toNat)
  case atStart => exact ⟨0, Nat.zero_le _, rfl, Below.refl _ _⟩
  case round =>
    obtain ⟨k, hk, rfl, hW⟩ := hrel
    by_cases hlt : k < ms.length
    · have q := (HH.out.1.later hW).at_ k hlt
      have q' := (HH.out.2.later hW).at_ k hlt
      obtain ⟨m, hm⟩ : ∃ m, m = ms.getD k Rs.none := ⟨_, rfl⟩
      rw [← hm] at q q'
      obtain ⟨c0, c1, _⟩ := q
      obtain ⟨d0, d1, _⟩ := q'
      have HX : Hid (∀ W, Below wr.heap.size wr W → Calls Try.prog 40 #[.agg #[.int .i64 m.bal, .string m.txt], .agg #[.int .i64 m.bal, .string m.txt]] W fun e w' => e = .returned (.bool true) ∧ Below W.heap.size W w') := fun W _ => eqRs m W
      clear hm
      go_wp2_with fail
      go_region_with (go_at_call 40; refine (HX.out _ ?_).mono ?_; (repeat (first | exact Below.refl _ _ | refine Below.drew ?_)); rintro e w2 ⟨rfl, hb2⟩)
      all_goals
        go_wp2
        go_roundw
        case rel =>
          refine ⟨k + 1, by omega, by go_num, ?_⟩
          repeat (first | exact blw_trans hW hb2 | exact blw_trans hW.drew hb2 | exact blw_trans hW.drew.drew hb2 | refine Below.drew ?_)
        case measure => simp [intOf]; omega
    · go_wp2
      go_ret
      exact ⟨rfl, hW⟩

end Go.Proofs.Ytnjomikieiocpaa
