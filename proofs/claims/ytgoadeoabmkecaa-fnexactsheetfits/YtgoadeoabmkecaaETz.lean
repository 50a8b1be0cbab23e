/-
  Sizes of lists of texts.
-/
import Derived.Test.YtgoadeoabmkecaaECs
namespace Go.Proofs.Ytgoadeoabmkecaa
open Go.RowKit Go.Deep

set_option maxRecDepth 8000 in
set_option maxHeartbeats 8000000 in
theorem szStringS (n : Nat) (es : List Dt) (v : Value) (left : Int) (w : World) (h0 : 0 ≤ left) (h1 : left ≤ 1048576) (h : Raw w [.row 9 [.s]] [.row n es] [v]) (hz : szd es) :
    Calls Try.prog 10 #[v, .int .i64 left] w fun e w' => e = .returned (.int .i64 (if ((n + wtL es : Nat) : Int) ≤ left then left - ((n + wtL es : Nat) : Int) else -1)) ∧ Below w.heap.size w w' := by
  obtain ⟨R, hR⟩ : ∃ R : Int, R = if ((n + wtL es : Nat) : Int) ≤ left then left - ((n + wtL es : Nat) : Int) else -1 := ⟨_, rfl⟩
  rw [← hR]
  have HRR := uh hR
  clear hR
  obtain ⟨a, c, hv⟩ := h.len0
  have HH := uh h
  have HZ := uh hz
  clear hz h
  have hn : n ≤ 9223372036854775807 := by rcases HH.out.slice with ⟨e, _⟩ | ⟨_, _, _, _, _, e, _⟩; omega; exact e.1
  subst hv
  go_enter Try.func10, Try.ntmps10
  by_cases hl : left - (n : Int) < 0
  · have HE : Hid (-1 = R) := by show _ = _; rw [HRR.out, if_neg (by omega)]
    go_wp2
    go_ret
    exact ⟨Pl.ret_int HE.out, Below.refl _ _⟩
  go_wp2
  go_loopw [1, 5] (fun l i wr => ∃ (q : Nat) (m : Int), q ≤ n ∧ i = .int .i64 q ∧ l = .int .i64 m ∧ m = left - n - wtL (es.take (q * 1)) ∧ 0 ≤ m ∧ Below w.heap.size w wr) (fun _ i _ => n - (intOf i).toNat)
  case atStart => exact ⟨0, left - n, Nat.zero_le _, rfl, rfl, by simp [wtL], by omega, Below.refl _ _⟩
  case round =>
    obtain ⟨q, m, hq, rfl, rfl, hm, hm0, hB⟩ := hrel
    have HM := uh hm
    have HB := uh hB
    have hm1 : m ≤ 1048576 := by omega
    clear hm hB
    by_cases hlt : q < n
    · have hr := (HH.out.later HB.out).slice
      rcases hr with ⟨e0, _⟩ | ⟨p, o, c2, hv, hp, _, vs, hr, hR⟩
      · omega
      injection hv with e1 _ e3
      subst e1
      subst e3
      obtain ⟨ve, hE, hg⟩ := hR.el hlt hr
      have hq0 : (0 : Int) ≤ (q : Int) := by omega
      have hq3 : (q : Int) < (n : Int) := by omega
      have hwn : wtL (es.take ((q + 1) * 1)) = wtL (es.take (q * 1)) + wtL (el 1 q es) := wt_next 1 q es
      have hwl : wtL (es.take ((q + 1) * 1)) ≤ wtL es := wt_le _ _
      have hze : szd (el 1 q es) := szd_el HZ.out
      obtain ⟨d, hd⟩ : ∃ d, d = el 1 q es := ⟨_, rfl⟩
      rw [← hd] at hwn hze
      have hE1 : Raw wr [.s] d ve := by rw [hd]; exact hE
      have HW := uh (And.intro hwn hwl)
      clear hwn hwl hE hd hR
      obtain ⟨a0, rfl⟩ := typT1 hE1.typ
      obtain rfl := rawT1 hE1
      have gc : wr.cell? ⟨p, o + q, none⟩ = some (.string a0) := by have := rA_get hg 0 _ rfl; simpa using this
      have hsz : a0.size ≤ 9223372036854775807 := by simp only [szd] at hze; exact hze.1
      have HWT : Hid (wtL [Dt.s a0] = a0.size) := by show _ = _; simp [wtL]
      clear hg hE1 hze hr
      by_cases hl2 : m - (a0.size : Int) < 0
      · have HE : Hid (-1 = R) := by show _ = _; have := HW.out; have := HWT.out; have := HM.out; rw [HRR.out, if_neg (by omega)]
        go_wp2
        go_ret
        exact ⟨Pl.ret_int HE.out, HB.out⟩
      · have HE : Hid (m - (a0.size : Int) = left - n - wtL (es.take ((q + 1) * 1))) := by show _ = _; have := HW.out; have := HWT.out; have := HM.out; omega
        go_wp2
        go_roundw
        case rel => exact ⟨q + 1, _, by omega, by go_num, rfl, HE.out, by omega, HB.out⟩
        case measure => simp [intOf]; omega
    · obtain rfl : q = n := by omega
      have el_ : es.length = q * 1 := by obtain ⟨_, _, _, e, t, _⟩ := HH.out.typ.c_r; injection e with e1 e2; injection e1 with e3 e4; subst e3; subst e4; exact t.rows
      have HE : Hid (m = R) := by
        show _ = _; have h2 := HM.out; rw [← el_, List.take_length] at h2
        rw [HRR.out, if_pos (by omega)]; omega
      clear el_
      go_wp2
      go_ret
      exact ⟨Pl.ret_int HE.out, HB.out⟩
end Go.Proofs.Ytgoadeoabmkecaa
