/-
  Sizes of mends.
-/
import Derived.Test.YtfdahoekjpobaaaGreatMem
import Derived.Test.YtfdahoekjpobaaaGreatWalkMB
namespace Go.Proofs.YtfdahoekjpobaaaGreat
open Go.RowKit Go.Deep

set_option maxHeartbeats 1000000 in
theorem szFields_row (b off cap : Nat) (fs : List Fld) (left : Int) (w : World) (h0 : 0 ≤ left) (h1 : left ≤ 1048576) (hb : b < w.heap.size) (hl : fs.length ≤ maxLen)
    (hc : ∀ i, i < fs.length → ∃ vs, FldIs w b (off + i * 11) (fs.getD i Fld.none) vs) :
    Calls Tryz.prog 38 #[.slice (some ⟨b, off, none⟩) fs.length cap, .int .i64 left] w fun e w' => (∃ r : Int, e = .returned (.int .i64 r) ∧ szP ((fs.length : Int) ≤ left ∧ ∀ f ∈ fs, f.small) left r) ∧ Below w.heap.size w w' := by
  unfold maxLen at hl
  by_cases hneg : left < (fs.length : Int)
  · go_enter Tryz.func38, Tryz.ntmps38
    go_wp2
    go_ret
    exact ⟨⟨_, rfl, by unfold szP; refine ⟨by omega, by omega, by omega⟩⟩, Below.refl _ _⟩
  · go_enter Tryz.func38, Tryz.ntmps38
    go_wp2
    go_loopw [1, 5] (fun l i wr => ∃ (k : Nat) (r : Int), k ≤ fs.length ∧ i = .int .i64 k ∧ l = .int .i64 r ∧ 0 ≤ r ∧ r ≤ left ∧ Below w.heap.size w wr ∧ ∀ f ∈ fs.take k, f.small) (fun _ i _ => fs.length - (intOf i).toNat)
    case atStart => exact ⟨0, _, Nat.zero_le _, rfl, rfl, by omega, by omega, Below.refl _ _, by simp⟩
    case round =>
      obtain ⟨k, r, hk, rfl, rfl, r0, r1, hB, hsm⟩ := hrel
      have HS : Hid (∀ f ∈ fs.take k, f.small) := hsm
      clear hsm
      by_cases hlt : k < fs.length
      · obtain ⟨vs, hf⟩ := hc k hlt
        have hf' := hf.later hB hb
        have HX : Hid (∀ f : Fld, f = fs.getD k Fld.none → Calls Tryz.prog 54 #[.agg #[.string f.nm, .int .i64 f.kind, .int .i64 f.least, .int .i64 f.most, vs, .string f.to, .int .i64 f.role, .bool f.must, .bool f.fixed, .string f.de, .string f.we], .int .i64 r] wr fun e w' => (∃ r' : Int, e = .returned (.int .i64 r') ∧ szPost f.words.length r r') ∧ Below wr.heap.size wr w') := by
          intro f hff
          subst hff
          exact szField _ _ _ _ vs _ _ _ _ _ _ wr _ r r0 (by omega) hf'.texts hf'.sized.1 hf'.sized.2.1 hf'.sized.2.2.1 hf'.sized.2.2.2
        obtain ⟨f, hff⟩ : ∃ f, f = fs.getD k Fld.none := ⟨_, rfl⟩
        rw [← hff] at hf'
        obtain ⟨c0, c1, c2, c3, c4, c5, c6, c7, c8, c9, c10, _, _⟩ := hf'
        have HFF : Hid (f = fs.getD k Fld.none) := hff
        clear hff hf hc
        go_wp2_with fail
        refine (HX.out f HFF.out).mono ?_
        rintro e w2 ⟨⟨r', rfl, hr⟩, hb2⟩
        have HR : Hid (szPost f.words.length r r') := hr
        have hB2 := blw_trans hB hb2
        have q1 : -1 ≤ r' := hr.1
        have q2 : r' ≤ r := hr.2.1
        clear hr hb2 c0 c1 c2 c3 c4 c5 c6 c7 c8 c9 c10 HX
        by_cases c2 : r' < 0
        · go_wp2
          go_ret
          exact ⟨⟨_, rfl, by unfold szP; refine ⟨by omega, by omega, by omega⟩⟩, hB2⟩
        · have HSm : Hid (∀ f ∈ fs.take (k + 1), f.small) := by
            refine small_take HS.out hlt ?_
            rw [← HFF.out]
            have := HR.out.2.2 (by omega)
            show f.words.length ≤ 1048576
            omega
          go_wp2
          go_roundw
          case rel => exact ⟨k + 1, _, by omega, by go_num, rfl, by omega, by omega, hB2, HSm.out⟩
          case measure => simp [intOf]; omega
      · have HW : Hid (∀ f ∈ fs, f.small) := small_whole HS.out (by omega)
        go_wp2
        go_ret
        exact ⟨⟨_, rfl, by unfold szP; exact ⟨by omega, by omega, fun _ => ⟨by omega, HW.out⟩⟩⟩, hB⟩

set_option maxHeartbeats 400000 in
theorem szFields_nil (a : Option Addr) (cap : Nat) (left : Int) (w : World) (h0 : 0 ≤ left) (h1 : left ≤ 1048576) :
    Calls Tryz.prog 38 #[.slice a 0 cap, .int .i64 left] w fun e w' => e = .returned (.int .i64 left) ∧ w = w' := by
  go_enter Tryz.func38, Tryz.ntmps38
  go_wp2
  refine wp_loop_rounds 1 ?_
  rw [rounds_succ]
  go_wp2
  go_ret
  exact ⟨Pl.ret_int (by omega), rfl⟩

theorem szFields (v : Value) (fs : List Fld) (left : Int) (w : World) (h0 : 0 ≤ left) (h1 : left ≤ 1048576) (h : FldsAt w v fs) :
    Calls Tryz.prog 38 #[v, .int .i64 left] w fun e w' => (∃ r : Int, e = .returned (.int .i64 r) ∧ szP ((fs.length : Int) ≤ left ∧ ∀ f ∈ fs, f.small) left r) ∧ Below w.heap.size w w' := by
  rcases h with ⟨a, cap, rfl, rfl⟩ | ⟨b, off, cap, rfl, hb, hl, hc⟩
  · refine (szFields_nil a cap left w h0 h1).mono ?_
    rintro e w' ⟨rfl, rfl⟩
    exact ⟨⟨_, rfl, by unfold szP; exact ⟨by omega, by omega, fun _ => ⟨by simpa using h0, by simp⟩⟩⟩, Below.refl _ _⟩
  · exact szFields_row b off cap fs left w h0 h1 hb hl hc

set_option maxHeartbeats 1000000 in
theorem szShape (s : Shp) (v : Value) (left : Int) (w : World) (h0 : 0 ≤ left) (h1 : left ≤ 1048576) (h : FldsAt w v s.fields) (hk : s.kind.size ≤ maxLen) :
    Calls Tryz.prog 19 #[.agg #[.string s.kind, v], .int .i64 left] w fun e w' => (∃ r : Int, e = .returned (.int .i64 r) ∧ szP s.small left r) ∧ Below w.heap.size w w' := by
  unfold maxLen at hk
  have HX : Hid (∀ (o : Obj) (l : Int), 0 ≤ l → l ≤ 1048576 → Calls Tryz.prog 38 #[v, .int .i64 l] (w.alloc o) fun e w' => (∃ r : Int, e = .returned (.int .i64 r) ∧ szP ((s.fields.length : Int) ≤ l ∧ ∀ f ∈ s.fields, f.small) l r) ∧ Below (w.alloc o).heap.size (w.alloc o) w') :=
    fun o l l0 l1 => szFields v s.fields l _ l0 l1 (h.later (blw_alloc (Below.refl _ _) o))
  clear h
  by_cases c1 : left < (s.kind.size : Int)
  · go_enter Tryz.func19, Tryz.ntmps19
    go_wp2
    go_ret
    exact ⟨⟨_, rfl, by unfold szP; exact ⟨by omega, by omega, by omega⟩⟩, blw_alloc (Below.refl _ _) _⟩
  · go_enter Tryz.func19, Tryz.ntmps19
    go_wp2_with fail
    refine (HX.out _ _ (by omega) (by omega)).mono ?_
    rintro e w2 ⟨⟨r, rfl, hr⟩, hb2⟩
    have hB2 := blw_trans (blw_alloc (Below.refl _ _) _) hb2
    have HR : Hid (szP ((s.fields.length : Int) ≤ left - s.kind.size ∧ ∀ f ∈ s.fields, f.small) (left - s.kind.size) r) := hr
    have q1 : -1 ≤ r := hr.1
    have q2 : r ≤ left - s.kind.size := hr.2.1
    clear hr HX hb2
    by_cases c2 : r < 0
    all_goals
      go_wp2
      go_ret
      refine ⟨⟨_, rfl, ?_⟩, hB2⟩
      unfold szP
      exact ⟨by omega, by omega, fun h => ⟨by have := (HR.out.2.2 (by omega)).1; omega, (HR.out.2.2 (by omega)).2⟩⟩

set_option maxHeartbeats 1000000 in
theorem szShapes_row (b off cap : Nat) (ss : List Shp) (left : Int) (w : World) (h0 : 0 ≤ left) (h1 : left ≤ 1048576) (hb : b < w.heap.size) (hl : ss.length ≤ maxLen)
    (hc : ∀ i, i < ss.length → ∃ x, ShpIs w b (off + i * 2) (ss.getD i Shp.none) x) :
    Calls Tryz.prog 4 #[.slice (some ⟨b, off, none⟩) ss.length cap, .int .i64 left] w fun e w' => (∃ r : Int, e = .returned (.int .i64 r) ∧ szP ((ss.length : Int) ≤ left ∧ ∀ s ∈ ss, s.small) left r) ∧ Below w.heap.size w w' := by
  unfold maxLen at hl
  by_cases hneg : left < (ss.length : Int)
  · go_enter Tryz.func4, Tryz.ntmps4
    go_wp2
    go_ret
    exact ⟨⟨_, rfl, by unfold szP; refine ⟨by omega, by omega, by omega⟩⟩, Below.refl _ _⟩
  · go_enter Tryz.func4, Tryz.ntmps4
    go_wp2
    go_loopw [1, 5] (fun l i wr => ∃ (k : Nat) (r : Int), k ≤ ss.length ∧ i = .int .i64 k ∧ l = .int .i64 r ∧ 0 ≤ r ∧ r ≤ left ∧ Below w.heap.size w wr ∧ ∀ s ∈ ss.take k, s.small) (fun _ i _ => ss.length - (intOf i).toNat)
    case atStart => exact ⟨0, _, Nat.zero_le _, rfl, rfl, by omega, by omega, Below.refl _ _, by simp⟩
    case round =>
      obtain ⟨k, r, hk, rfl, rfl, r0, r1, hB, hsm⟩ := hrel
      have HS : Hid (∀ s ∈ ss.take k, s.small) := hsm
      clear hsm
      by_cases hlt : k < ss.length
      · obtain ⟨vs, hf⟩ := hc k hlt
        have hf' := hf.later hB hb
        obtain ⟨s, hss⟩ : ∃ s, s = ss.getD k Shp.none := ⟨_, rfl⟩
        rw [← hss] at hf'
        have HX : Hid (Calls Tryz.prog 19 #[.agg #[.string s.kind, vs], .int .i64 r] wr fun e w' => (∃ r' : Int, e = .returned (.int .i64 r') ∧ szP s.small r r') ∧ Below wr.heap.size wr w') :=
          szShape s vs r wr r0 (by omega) hf'.fields hf'.sized
        obtain ⟨c0, c1, _, _⟩ := hf'
        have HFF : Hid (s = ss.getD k Shp.none) := hss
        clear hss hf hc
        go_wp2_with fail
        refine HX.out.mono ?_
        rintro e w2 ⟨⟨r', rfl, hr⟩, hb2⟩
        have HR : Hid (szP s.small r r') := hr
        have hB2 := blw_trans hB hb2
        have q1 : -1 ≤ r' := hr.1
        have q2 : r' ≤ r := hr.2.1
        clear hr hb2 c0 c1 HX
        by_cases c2 : r' < 0
        · go_wp2
          go_ret
          exact ⟨⟨_, rfl, by unfold szP; refine ⟨by omega, by omega, by omega⟩⟩, hB2⟩
        · have HSm : Hid (∀ s ∈ ss.take (k + 1), s.small) := by
            refine shp_take HS.out hlt ?_
            rw [← HFF.out]
            exact HR.out.2.2 (by omega)
          go_wp2
          go_roundw
          case rel => exact ⟨k + 1, _, by omega, by go_num, rfl, by omega, by omega, hB2, HSm.out⟩
          case measure => simp [intOf]; omega
      · have HW : Hid (∀ s ∈ ss, s.small) := shp_whole HS.out (by omega)
        go_wp2
        go_ret
        exact ⟨⟨_, rfl, by unfold szP; exact ⟨by omega, by omega, fun _ => ⟨by omega, HW.out⟩⟩⟩, hB⟩

set_option maxHeartbeats 400000 in
theorem szShapes_nil (a : Option Addr) (cap : Nat) (left : Int) (w : World) (h0 : 0 ≤ left) (h1 : left ≤ 1048576) :
    Calls Tryz.prog 4 #[.slice a 0 cap, .int .i64 left] w fun e w' => e = .returned (.int .i64 left) ∧ w = w' := by
  go_enter Tryz.func4, Tryz.ntmps4
  go_wp2
  refine wp_loop_rounds 1 ?_
  rw [rounds_succ]
  go_wp2
  go_ret
  exact ⟨Pl.ret_int (by omega), rfl⟩

theorem szShapes (v : Value) (ss : List Shp) (left : Int) (w : World) (h0 : 0 ≤ left) (h1 : left ≤ 1048576) (h : ShpsAt w v ss) :
    Calls Tryz.prog 4 #[v, .int .i64 left] w fun e w' => (∃ r : Int, e = .returned (.int .i64 r) ∧ szP ((ss.length : Int) ≤ left ∧ ∀ s ∈ ss, s.small) left r) ∧ Below w.heap.size w w' := by
  rcases h with ⟨a, cap, rfl, rfl⟩ | ⟨b, off, cap, rfl, hb, hl, hc⟩
  · refine (szShapes_nil a cap left w h0 h1).mono ?_
    rintro e w' ⟨rfl, rfl⟩
    exact ⟨⟨_, rfl, by unfold szP; exact ⟨by omega, by omega, fun _ => ⟨by simpa using h0, by simp⟩⟩⟩, Below.refl _ _⟩
  · exact szShapes_row b off cap ss left w h0 h1 hb hl hc

end Go.Proofs.YtfdahoekjpobaaaGreat

namespace Go.Proofs.YtfdahoekjpobaaaGreat
open Go.RowKit Go.Deep

set_option maxHeartbeats 1000000 in
theorem szMend (m : Mnd) (left : Int) (w : World) (h0 : 0 ≤ left) (h1 : left ≤ 1048576) (hs : m.sized) :
    Calls Tryz.prog 20 #[.agg #[.string m.kind, .string m.field, .string m.whn, .string m.is_, .string m.put, .string m.frm], .int .i64 left] w fun e w' => (∃ r : Int, e = .returned (.int .i64 r) ∧ -1 ≤ r ∧ r ≤ left) ∧ Below w.heap.size w w' := by
  obtain ⟨s0, s1, s2, s3, s4, s5⟩ := hs
  unfold maxLen at s0 s1 s2 s3 s4 s5
  by_cases c1 : left < (m.kind.size : Int)
  · go_enter Tryz.func20, Tryz.ntmps20
    go_wp2
    go_ret
    exact ⟨⟨_, rfl, by omega, by omega⟩, blw_alloc (Below.refl _ _) _⟩
  by_cases c2 : left - m.kind.size < (m.field.size : Int)
  · go_enter Tryz.func20, Tryz.ntmps20
    go_wp2
    go_ret
    exact ⟨⟨_, rfl, by omega, by omega⟩, blw_alloc (Below.refl _ _) _⟩
  by_cases c3 : left - m.kind.size - m.field.size < (m.whn.size : Int)
  · go_enter Tryz.func20, Tryz.ntmps20
    go_wp2
    go_ret
    exact ⟨⟨_, rfl, by omega, by omega⟩, blw_alloc (Below.refl _ _) _⟩
  by_cases c4 : left - m.kind.size - m.field.size - m.whn.size < (m.is_.size : Int)
  · go_enter Tryz.func20, Tryz.ntmps20
    go_wp2
    go_ret
    exact ⟨⟨_, rfl, by omega, by omega⟩, blw_alloc (Below.refl _ _) _⟩
  by_cases c5 : left - m.kind.size - m.field.size - m.whn.size - m.is_.size < (m.put.size : Int)
  · go_enter Tryz.func20, Tryz.ntmps20
    go_wp2
    go_ret
    exact ⟨⟨_, rfl, by omega, by omega⟩, blw_alloc (Below.refl _ _) _⟩
  by_cases c6 : left - m.kind.size - m.field.size - m.whn.size - m.is_.size - m.put.size < (m.frm.size : Int)
  all_goals
    go_enter Tryz.func20, Tryz.ntmps20
    go_wp2
    go_ret
    exact ⟨⟨_, rfl, by omega, by omega⟩, blw_alloc (Below.refl _ _) _⟩

set_option maxHeartbeats 1000000 in
theorem szMends_row (b off cap : Nat) (ms : List Mnd) (left : Int) (w : World) (h0 : 0 ≤ left) (h1 : left ≤ 1048576) (hb : b < w.heap.size) (hl : ms.length ≤ maxLen)
    (hc : ∀ i, i < ms.length → MndIs w b (off + i * 6) (ms.getD i Mnd.none)) :
    Calls Tryz.prog 5 #[.slice (some ⟨b, off, none⟩) ms.length cap, .int .i64 left] w fun e w' => (∃ r : Int, e = .returned (.int .i64 r) ∧ szP ((ms.length : Int) ≤ left) left r) ∧ Below w.heap.size w w' := by
  unfold maxLen at hl
  by_cases hneg : left < (ms.length : Int)
  · go_enter Tryz.func5, Tryz.ntmps5
    go_wp2
    go_ret
    exact ⟨⟨_, rfl, by unfold szP; refine ⟨by omega, by omega, by omega⟩⟩, Below.refl _ _⟩
  · go_enter Tryz.func5, Tryz.ntmps5
    go_wp2
    go_loopw [1, 5] (fun l i wr => ∃ (k : Nat) (r : Int), k ≤ ms.length ∧ i = .int .i64 k ∧ l = .int .i64 r ∧ 0 ≤ r ∧ r ≤ left ∧ Below w.heap.size w wr) (fun _ i _ => ms.length - (intOf i).toNat)
    case atStart => exact ⟨0, _, Nat.zero_le _, rfl, rfl, by omega, by omega, Below.refl _ _⟩
    case round =>
      obtain ⟨k, r, hk, rfl, rfl, r0, r1, hB⟩ := hrel
      by_cases hlt : k < ms.length
      · have hf := (hc k hlt).later hB hb
        obtain ⟨m, hm⟩ : ∃ m, m = ms.getD k Mnd.none := ⟨_, rfl⟩
        rw [← hm] at hf
        have HX : Hid (Calls Tryz.prog 20 #[.agg #[.string m.kind, .string m.field, .string m.whn, .string m.is_, .string m.put, .string m.frm], .int .i64 r] wr fun e w' => (∃ r' : Int, e = .returned (.int .i64 r') ∧ -1 ≤ r' ∧ r' ≤ r) ∧ Below wr.heap.size wr w') :=
          szMend m r wr r0 (by omega) hf.sized
        obtain ⟨c0, c1, c2, c3, c4, c5, _⟩ := hf
        clear hm hc
        go_wp2_with fail
        refine HX.out.mono ?_
        rintro e w2 ⟨⟨r', rfl, q1, q2⟩, hb2⟩
        have hB2 := blw_trans hB hb2
        clear hb2 c0 c1 c2 c3 c4 c5 HX
        by_cases c2 : r' < 0
        · go_wp2
          go_ret
          exact ⟨⟨_, rfl, by unfold szP; refine ⟨by omega, by omega, by omega⟩⟩, hB2⟩
        · go_wp2
          go_roundw
          case rel => exact ⟨k + 1, _, by omega, by go_num, rfl, by omega, by omega, hB2⟩
          case measure => simp [intOf]; omega
      · go_wp2
        go_ret
        exact ⟨⟨_, rfl, by unfold szP; exact ⟨by omega, by omega, fun _ => by omega⟩⟩, hB⟩

set_option maxHeartbeats 400000 in
theorem szMends_nil (a : Option Addr) (cap : Nat) (left : Int) (w : World) (h0 : 0 ≤ left) (h1 : left ≤ 1048576) :
    Calls Tryz.prog 5 #[.slice a 0 cap, .int .i64 left] w fun e w' => e = .returned (.int .i64 left) ∧ w = w' := by
  go_enter Tryz.func5, Tryz.ntmps5
  go_wp2
  refine wp_loop_rounds 1 ?_
  rw [rounds_succ]
  go_wp2
  go_ret
  exact ⟨Pl.ret_int (by omega), rfl⟩

theorem szMends (v : Value) (ms : List Mnd) (left : Int) (w : World) (h0 : 0 ≤ left) (h1 : left ≤ 1048576) (h : MndsAt w v ms) :
    Calls Tryz.prog 5 #[v, .int .i64 left] w fun e w' => (∃ r : Int, e = .returned (.int .i64 r) ∧ szP ((ms.length : Int) ≤ left) left r) ∧ Below w.heap.size w w' := by
  rcases h with ⟨a, cap, rfl, rfl⟩ | ⟨b, off, cap, rfl, hb, hl, hc⟩
  · refine (szMends_nil a cap left w h0 h1).mono ?_
    rintro e w' ⟨rfl, rfl⟩
    exact ⟨⟨_, rfl, by unfold szP; exact ⟨by omega, by omega, fun _ => by simpa using h0⟩⟩, Below.refl _ _⟩
  · exact szMends_row b off cap ms left w h0 h1 hb hl hc

end Go.Proofs.YtfdahoekjpobaaaGreat
