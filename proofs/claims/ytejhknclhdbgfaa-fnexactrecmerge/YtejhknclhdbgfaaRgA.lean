/-
  Rows of slots: of one's own; alike; their marks.
-/
import Derived.Test.YtejhknclhdbgfaaRgo
import Derived.Test.YtejhknclhdbgfaaMkRs
namespace Go.Proofs.Ytejhknclhdbgfaa
open Go.RowKit Go.Deep

def RsC (m : Rs) : List Value := [.int .i64 m.bal, .string m.txt]
theorem RsC_len (m : Rs) : (RsC m).length = 2 := rfl
theorem RsC_one (l : List Rs) : ∀ u ∈ l.flatMap RsC, u.oneCell' = true := by
  intro u hu
  obtain ⟨m, _, hm⟩ := List.mem_flatMap.1 hu
  have : u = .int .i64 m.bal ∨ u = .string m.txt := by simpa [RsC] using hm
  rcases this with rfl | rfl <;> rfl
theorem Try.undRs : Try.prog.underlying 27 = some (.slice 69) := by kernel_rfl
theorem Try.infRs : (Try.prog.info? 69).map (fun i => (i.zero, i.size, i.bytes)) = some (some (.agg #[.int .i64 0, .string ByteArray.empty]), 2, 24) := by kernel_rfl
theorem RssV.news {w : World} {a : Option Addr} {ms : List Rs} (h : RssV w a ms) : ∀ ad, a = some ad → ∀ j u, (ms.flatMap RsC)[j]? = some u → w.cell? (ad.add j) = some u := by
  intro ad e j u hu
  subst e
  rcases Nat.eq_zero_or_pos ms.length with h0 | h0
  · rw [List.eq_nil_of_length_eq_zero h0] at hu; cases hu
  · obtain ⟨b, off, e, _, _⟩ := h.at_ 0 h0
    injection e with e
    subst e
    rw [addN]
    have := flat_get Rs.none RsC 2 RsC_len (fun j v => w.cell? ⟨b, j, none⟩ = some v) ms off (fun i hi k v hv => ?_) j u hu
    · exact this
    · obtain ⟨b', off', e', _, hf⟩ := h.at_ i hi
      injection e' with e'
      injection e' with e1 e2 _
      subst e1 e2
      match k, hv with
      | 0, hv => injection hv with hv; subst hv; exact hf.c0
      | 1, hv => injection hv with hv; subst hv; exact hf.c1
      | n + 2, hv => simp [RsC] at hv
theorem RssV.nil {w : World} {a : Option Addr} {ms : List Rs} (h : RssV w a ms) : a = none → ms.length = 0 := fun e => by
  rcases Nat.eq_zero_or_pos ms.length with h0 | h0
  · exact h0
  · obtain ⟨b, off, e', _⟩ := h.at_ 0 h0; rw [e] at e'; cases e'

/-- A row of slots in a block between lo and hi. -/
def RsRow (W : World) (lo hi : Nat) (v : Value) (l : List Rs) : Prop :=
  (l.length = 0 ∧ ∃ a c, v = .slice a 0 c) ∨ ∃ g c m, v = .slice (some ⟨g, 0, none⟩) l.length c ∧ lo ≤ g ∧ g < hi ∧ OwnBlk W g 69 m ∧ l.length * 2 ≤ m ∧ l.length ≤ 1048576 ∧ ∀ i, i < l.length → RsIs W g (i * 2) (l.getD i Rs.none)
theorem RsRow.later {W W' : World} {lo hi : Nat} {v : Value} {l : List Rs} (h : RsRow W lo hi v l) (hb : Below W.heap.size W W') : RsRow W' lo hi v l := by
  rcases h with h | ⟨g, c, m, h1, h2, h3, h4, h5, h6, h7⟩
  · exact Or.inl h
  · exact Or.inr ⟨g, c, m, h1, h2, h3, h4.later hb, h5, h6, fun i hi => (h7 i hi).later hb h4.lt⟩
/-- Marks elsewhere leave it. -/
theorem RsRow.marks {W W' : World} {lo hi : Nat} {v : Value} {l : List Rs} (h : RsRow W lo hi v l) {S : Nat → Prop} (hm : Marks S W W') (hs : ∀ p, S p → ¬ (lo ≤ p ∧ p < hi)) : RsRow W' lo hi v l := by
  rcases h with h | ⟨g, c, m, h1, h2, h3, h4, h5, h6, h7⟩
  · exact Or.inl h
  · refine Or.inr ⟨g, c, m, h1, h2, h3, hm.own _ _ _ h4, h5, h6, fun i hi => ?_⟩
    have e := fun o => hm.cell h4.lt (fun hh => hs g hh ⟨h2, h3⟩) o
    obtain ⟨q0, q1, q2⟩ := h7 i hi
    exact ⟨(e _).trans q0, (e _).trans q1, q2⟩
theorem RsRow.v {W : World} {lo hi : Nat} {v : Value} {l : List Rs} (h : RsRow W lo hi v l) : ∃ a c, v = .slice a l.length c ∧ RssV W a l := by
  rcases h with ⟨h0, a, c, rfl⟩ | ⟨g, c, m, rfl, _, _, h4, _, h6, h7⟩
  · exact ⟨a, c, by rw [h0], by rw [h0]; unfold maxLen; omega, fun i hi => by omega⟩
  · exact ⟨_, c, rfl, by unfold maxLen; omega, fun i hi => ⟨g, 0, rfl, h4.lt, by rw [Nat.zero_add]; exact h7 i hi⟩⟩
theorem RsRow.of_in {W : World} {B lo hi : Nat} {l : List Rs} (h : RssIn W B l) (h1 : lo ≤ B) (h2 : B < hi) : RsRow W lo hi (.slice (some ⟨B, 0, none⟩) l.length l.length) l :=
  Or.inr ⟨B, _, _, rfl, h1, h2, h.own, Nat.le_refl _, h.len, h.at_⟩
/-- A row of the call's own is one. -/
theorem RsRow.of_owns {W : World} {lo : Nat} {v : Value} {l : List Rs} (h : W.ownsRow lo 69 2 v l.length (l.flatMap RsC)) (hs : ∀ i, i < l.length → (l.getD i Rs.none).sized) (hl : l.length ≤ 1048576) : RsRow W lo W.heap.size v l := by
  rcases h.2 with ⟨hv, h0⟩ | ⟨g, cap, cur, hv, hb, hg, hc, hcm, hsz, ht⟩
  · exact Or.inl ⟨h0, none, 0, hv⟩
  · refine Or.inr ⟨g, cap, cur.size, hv, hb, (Array.getElem?_eq_some_iff.1 hg).1, ⟨cur, hg, rfl⟩, by rw [hsz]; exact Nat.mul_le_mul_right 2 hc, hl, fun i hi => ?_⟩
    have q : ∀ k, k < 2 → W.cell? ⟨g, i * 2 + k, none⟩ = (RsC (l.getD i Rs.none))[k]? := fun k hk => by
      rw [← flat_at Rs.none RsC 2 RsC_len l i k hi hk, ← ht, List.getElem?_take, if_pos (by omega)]
      simp [World.cell?, hg]
    exact ⟨q 0 (by omega), q 1 (by omega), hs i hi⟩

set_option maxHeartbeats 2000000 in
theorem eqRssV (a a' : Option Addr) (c c' : Nat) (ms : List Rs) (w : World) (h : RssV w a ms) (h' : RssV w a' ms) :
    Calls Try.prog 17 #[.slice a ms.length c, .slice a' ms.length c'] w fun e w' => e = .returned (.bool true) ∧ Below w.heap.size w w' := by
  have hl := h.len
  unfold maxLen at hl
  have HH : Hid (RssV w a ms ∧ RssV w a' ms) := ⟨h, h'⟩
  clear h h'
  go_enter Try.func17, Try.ntmps17
  go_wp2
  go_loopw [5] (fun i wr => ∃ k : Nat, k ≤ ms.length ∧ i = .int .i64 k ∧ Below w.heap.size w wr) (fun i _ => ms.length - (intOf i).toNat)
  case atStart => exact ⟨0, Nat.zero_le _, rfl, Below.refl _ _⟩
  case round =>
    obtain ⟨k, hk, rfl, hW⟩ := hrel
    by_cases hlt : k < ms.length
    · obtain ⟨b, off, ha, hbl, q⟩ := (HH.out.1.later hW).at_ k hlt
      obtain ⟨b', off', ha', hbl', q'⟩ := (HH.out.2.later hW).at_ k hlt
      subst ha ha'
      obtain ⟨m, hm⟩ : ∃ m, m = ms.getD k Rs.none := ⟨_, rfl⟩
      rw [← hm] at q q'
      obtain ⟨c0, c1, _⟩ := q
      obtain ⟨d0, d1, _⟩ := q'
      have HX : Hid (∀ W, Below wr.heap.size wr W → Calls Try.prog 45 #[.agg #[.int .i64 m.bal, .string m.txt], .agg #[.int .i64 m.bal, .string m.txt]] W fun e w' => e = .returned (.bool true) ∧ Below W.heap.size W w') := fun W _ => eqRs m W
      clear hm
      go_wp2_with fail
      go_region_with (go_at_call 45; refine (HX.out _ ?_).mono ?_; (repeat (first | exact Below.refl _ _ | refine Below.drew ?_)); rintro e w2 ⟨rfl, hb2⟩)
      all_goals
        go_wp2
        go_roundw
        case rel =>
          refine ⟨k + 1, by omega, by go_num, ?_⟩
          repeat (first | exact blw_trans hW hb2 | exact blw_trans hW.drew hb2 | exact blw_trans hW.drew.drew hb2 | refine Below.drew ?_)
        case measure => simp [intOf]; omega
    · go_wp2
      go_ret
      exact ⟨rfl, hW⟩

/-- A row that bears the marks from k on. -/
def RsHd (W : World) (lo hi : Nat) (v : Value) (n k : Nat) : Prop := (n = 0 ∧ ∃ a c, v = .slice a 0 c) ∨ ∃ g c, v = .slice (some ⟨g, 0, none⟩) n c ∧ lo ≤ g ∧ g < hi ∧ g < W.heap.size ∧ n ≤ 1048576 ∧ ∀ i, i < n → RsMk W g (i * 2) (k + i * 2)
theorem RsHd.later {W W' : World} {lo hi : Nat} {v : Value} {n k : Nat} (h : RsHd W lo hi v n k) (hb : Below W.heap.size W W') : RsHd W' lo hi v n k := by
  rcases h with h | ⟨g, c, h1, h2, h3, h4, h5, h6⟩
  · exact Or.inl h
  · exact Or.inr ⟨g, c, h1, h2, h3, Nat.lt_of_lt_of_le h4 hb.size, h5, fun i hi => (h6 i hi).later hb h4⟩
set_option maxHeartbeats 400000 in
theorem markRss_nil (a : Option Addr) (c : Nat) (k : Int) (w : World) :
    Calls Try.prog 18 #[.slice a 0 c, .int .i64 k] w fun e w' => e = .returned (.int .i64 k) ∧ w = w' := by
  go_enter Try.func18, Try.ntmps18
  go_wp2
  refine wp_loop_rounds 1 ?_
  rw [rounds_succ]
  go_wp2
  go_ret
  exact ⟨rfl, rfl⟩
set_option maxHeartbeats 400000 in
theorem heldRss_nil (a : Option Addr) (c : Nat) (k : Int) (w : World) :
    Calls Try.prog 19 #[.slice a 0 c, .int .i64 k] w fun e w' => e = .returned (.int .i64 k) ∧ w = w' := by
  go_enter Try.func19, Try.ntmps19
  go_wp2
  refine wp_loop_rounds 1 ?_
  rw [rounds_succ]
  go_wp2
  go_ret
  exact ⟨rfl, rfl⟩
theorem markRow (W : World) (lo hi : Nat) (v : Value) (l : List Rs) (k : Nat) (h : RsRow W lo hi v l) (hk : k ≤ 1000000000000) (h1 : 1 ≤ k) :
    Calls Try.prog 18 #[v, .int .i64 (k : Int)] W fun e w' => e = .returned (.int .i64 ((k + l.length * 2 : Nat) : Int)) ∧ Marks (fun p => lo ≤ p ∧ p < hi) W w' ∧ RsHd w' lo hi v l.length k := by
  rcases h with ⟨h0, a, c, rfl⟩ | ⟨g, c, m, rfl, hl, hh, hO, hn, hn2, _⟩
  · refine (markRss_nil a c k W).mono ?_
    rintro e w' ⟨rfl, rfl⟩
    exact ⟨by rw [h0]; simp, Marks.refl _ _, Or.inl ⟨h0, a, c, rfl⟩⟩
  · refine (markRss g l.length c m k W hO hn hn2 hk h1).mono ?_
    rintro e w' ⟨rfl, hm, hh'⟩
    exact ⟨rfl, hm.mono (fun p e => by rw [e]; exact ⟨hl, hh⟩), Or.inr ⟨g, c, rfl, hl, hh, (hm.own _ _ _ hO).lt, hn2, hh'⟩⟩
theorem heldRow (W : World) (lo hi : Nat) (v : Value) (n k : Nat) (h : RsHd W lo hi v n k) (hk : k ≤ 1000000000000) (h1 : 1 ≤ k) :
    Calls Try.prog 19 #[v, .int .i64 (k : Int)] W fun e w' => e = .returned (.int .i64 ((k + n * 2 : Nat) : Int)) ∧ Below W.heap.size W w' := by
  rcases h with ⟨h0, a, c, rfl⟩ | ⟨g, c, rfl, hl, hh, hO, hn2, hm⟩
  · refine (heldRss_nil a c k W).mono ?_
    rintro e w' ⟨rfl, rfl⟩
    exact ⟨by rw [h0]; simp, Below.refl _ _⟩
  · exact heldRss g n c k W hO hn2 hk h1 hm

end Go.Proofs.Ytejhknclhdbgfaa
