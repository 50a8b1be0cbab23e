/-
  The law of SheetFits.
-/
import Derived.Test.YthmaeeakmmblkaaECs
import Derived.Test.YthmaeeakmmblkaaETx
import Derived.Test.YthmaeeakmmblkaaUL
namespace Go.Proofs.Ythmaeeakmmblkaa
open Go.RowKit Go.Deep

theorem Try.uinfoT1 : (Try.prog.info? 9).map (fun i => (i.zero, i.size, decide (i.bytes ≤ 4096))) = some (some (.string ByteArray.empty), 1, true) := by kernel_rfl
theorem Try.uunderT1 : Try.prog.underlying 22 = some (.slice 9) := by kernel_rfl
theorem umakeT1 (n : Nat) (h : n ≤ 1048576) : ∃ cs : Array Value, cs.size = n * 1 ∧ ∀ W : World,
    (Instr.makeSlice 22 (.int .i64 (n : Int)) (.int .i64 (n : Int))).run Try.prog W = .ok (.slice (some ⟨W.heap.size, 0, none⟩) n n) (W.alloc (.cells cs 9)) := by
  obtain ⟨i, hi, hzz⟩ := Option.map_eq_some_iff.1 Try.uinfoT1
  simp only [Prod.mk.injEq, decide_eq_true_eq] at hzz
  obtain ⟨hz, hs, hb⟩ := hzz
  refine ⟨madeCells ((.string ByteArray.empty) : Value).cells (n * 1), size_madeCells _ _, fun W => ?_⟩
  have hmx : (i.bytes : Int) * (n : Int) ≤ 281474976710656 := by
    have e : ((i.bytes * n : Nat) : Int) ≤ ((4096 * 1048576 : Nat) : Int) := Int.ofNat_le.2 (Nat.mul_le_mul hb h)
    rw [Int.natCast_mul] at e
    exact Int.le_trans e (by decide)
  have hr := run_make (P := Try.prog) W 22 9 i _ Try.uunderT1 hi hz .i64 .i64 n n (by omega) (Int.le_refl _) hmx (by omega)
  simp only [Int.toNat_natCast, hs] at hr
  exact hr
set_option maxRecDepth 8000 in
set_option maxHeartbeats 8000000 in
theorem toStringS (n : Nat) (es : List Dt) (v : Value) (w : World) (h : Raw w [.row 9 [.s]] [.row n es] [v]) (hs : n + wtL es ≤ 1048576) :
    Calls Try.prog 7 #[v] w fun e w' => ∃ v' F, e = .returned v' ∧ Rep w' true [.row 9 [.s]] F [.row n es] [v'] ∧ F.Nodup ∧ (∀ b ∈ F, w.heap.size ≤ b) ∧ Below w.heap.size w w' := by
  obtain ⟨zs, hzs, hmk⟩ := umakeT1 n (by omega)
  by_cases h0 : n = 0
  · subst h0
    have he0 : es = [] := List.eq_nil_of_length_eq_zero (by have := h.typ; obtain ⟨_, _, _, e, t, _⟩ := this.c_r; injection e with e1 e2; injection e1 with e3 e4; subst e3; subst e4; have := t.rows; omega)
    subst he0
    obtain ⟨a, c, rfl⟩ := h.len0
    have hmk0 : ∀ W : World, (Instr.makeSlice 22 (.int .i64 0) (.int .i64 0)).run Try.prog W = .ok (.slice (some ⟨W.heap.size, 0, none⟩) 0 0) (W.alloc (.cells zs 9)) := hmk
    clear hmk
    go_enter Try.func7, Try.ntmps7
    go_wp2
    refine wp_loop_rounds 1 ?_
    rw [rounds_succ]
    go_wp2
    go_ret
    exact ⟨_, [w.heap.size], rfl, Rep.row 9 [.s] w.heap.size 0 0 0 9 0 [] [] [] (OwnBlk.alloc w zs _ _ (by simpa using hzs)) (by simp) (fun _ => ⟨rfl, by simp, rfl, rfl⟩) ⟨Nat.zero_le _, Nat.le_refl _⟩ (rA_nil _ _ _) .nil .nil, by simp, by simp, blw_alloc (Below.refl _ _) _⟩
  rcases h.slice with ⟨e0, _⟩ | ⟨p, o, c, rfl, hp, hn, vs, hr, hR⟩
  · exact absurd e0 h0
  have HR := uh (And.intro hR (And.intro hr hp))
  have HT := uh hR.typ
  have HS := uh hs
  have hn1 : n ≤ 1048576 := by omega
  clear h hr hR hp hs hn
  go_enter Try.func7, Try.ntmps7
  go_wp2
  go_loopw [4] (fun i wr => ∃ (q : Nat) (G : List Nat) (D : List Value), q ≤ n ∧ i = .int .i64 q ∧ Below w.heap.size w wr ∧ Bld wr w.heap.size 9 (n * 1) (reps q [.s]) G (es.take (q * 1)) D) (fun i _ => n - (intOf i).toNat)
  case atStart => exact ⟨0, [], [], Nat.zero_le _, rfl, blw_alloc (Below.refl _ _) _, by rw [Nat.zero_mul, List.take_zero]; exact Bld.nil (OwnBlk.alloc w zs 9 _ hzs)⟩
  case round =>
    obtain ⟨q, G, D, hq, rfl, hW, hD⟩ := hrel
    have HB := uh hW
    have HD := uh hD
    clear hW hD hmk hzs
    by_cases hlt : q < n
    · obtain ⟨ve, hE, hg⟩ := (HR.out.1.later HB.out).el hlt (rA_later HR.out.2.1 HR.out.2.2 HB.out)
      have hbp : p < wr.heap.size := Nat.lt_of_lt_of_le HR.out.2.2 HB.out.size
      have hm0 : (0 : Int) ≤ (q : Int) := by omega
      have hm3 : (q : Int) < (n : Int) := by omega
      have hmul : q * 1 + 1 ≤ n * 1 := by omega
      have hqz := HD.out.own.lt
      have hfz := HD.out.own.frozen
      obtain ⟨d, hd⟩ : ∃ d, d = el 1 q es := ⟨_, rfl⟩
      have hE1 : Raw wr [.s] d ve := by rw [hd]; exact hE
      obtain ⟨a0, rfl⟩ := typT1 hE1.typ
      obtain rfl := rawT1 hE1
      have gc : wr.cell? ⟨p, o + q, none⟩ = some (.string a0) := by have := rA_get hg 0 _ rfl; simpa using this
      obtain ⟨y, hy⟩ : ∃ y, y = wr.setCell ⟨w.heap.size, q, none⟩ (.string a0) := ⟨_, rfl⟩
      have HN : Hid (Below w.heap.size w y ∧ Bld y w.heap.size 9 (n * 1) (reps (q + 1) [.s]) (G ++ []) (es.take ((q + 1) * 1)) (D ++ [.string a0])) := by
        refine ⟨by rw [hy]; exact HB.out.setCell (p := ⟨w.heap.size, q, none⟩) (Nat.le_refl _) _, ?_⟩
        rw [hy, reps_snoc, Nat.succ_mul, el_take, ← hd, List.append_nil]
        exact HD.out.put1 (by rw [reps_len]; simp) (.s a0 .nil) (by omega)
      obtain ⟨ux, eu⟩ := HD.out.own.cell q (by omega)
      clear hE hE1 hd hg HR HD
      go_upto_region 4 with fail
      rw [← hy]
      clear hy eu gc
      go_wp2
      go_roundw
      case rel => exact ⟨q + 1, _, _, by omega, by go_num, HN.out.1, HN.out.2⟩
      case measure => simp [intOf]; omega
    · obtain rfl : q = n := by omega
      have el_ : es.length = q * 1 := HT.out.rows
      rw [← el_, List.take_length, el_] at HD
      go_wp2
      go_ret
      refine ⟨_, w.heap.size :: (G ++ []), rfl, Rep.row 9 [.s] w.heap.size 0 q q 9 (q * 1) D es G HD.out.own (by show 0 + q * 1 ≤ q * 1; omega) (fun _ => ⟨rfl, rfl, rfl, rfl⟩) ⟨by show q ≤ 9223372036854775807; omega, Nat.le_refl _⟩ HD.out.at_ HD.out.rep .nil, ?_, ?_, HB.out⟩
      · rw [List.append_nil, List.nodup_cons]; exact ⟨fun e => Nat.lt_irrefl _ (HD.out.fr _ e), HD.out.nd⟩
      · intro b hb; rw [List.append_nil] at hb; rcases List.mem_cons.1 hb with rfl | hb; exact Nat.le_refl _; exact Nat.le_of_lt (HD.out.fr b hb)
end Go.Proofs.Ythmaeeakmmblkaa

namespace Go.Proofs.Ythmaeeakmmblkaa
open Go.RowKit Go.Deep

set_option maxRecDepth 8000 in
set_option maxHeartbeats 8000000 in
theorem szStringS (n : Nat) (es : List Dt) (v : Value) (left : Int) (w : World) (h0 : 0 ≤ left) (h1 : left ≤ 1048576) (h : Raw w [.row 9 [.s]] [.row n es] [v]) (hz : szd es) :
    Calls Try.prog 5 #[v, .int .i64 left] w fun e w' => e = .returned (.int .i64 (if ((n + wtL es : Nat) : Int) ≤ left then left - ((n + wtL es : Nat) : Int) else -1)) ∧ Below w.heap.size w w' := by
  obtain ⟨R, hR⟩ : ∃ R : Int, R = if ((n + wtL es : Nat) : Int) ≤ left then left - ((n + wtL es : Nat) : Int) else -1 := ⟨_, rfl⟩
  rw [← hR]
  have HRR := uh hR
  clear hR
  obtain ⟨a, c, hv⟩ := h.len0
  have HH := uh h
  have HZ := uh hz
  clear hz h
  have hn : n ≤ 9223372036854775807 := by rcases HH.out.slice with ⟨e, _⟩ | ⟨_, _, _, _, _, e, _⟩; omega; exact e.1
  subst hv
  go_enter Try.func5, Try.ntmps5
  by_cases hl : left - (n : Int) < 0
  · have HE : Hid (-1 = R) := by show _ = _; rw [HRR.out, if_neg (by omega)]
    go_wp2
    go_ret
    exact ⟨Pl.ret_int HE.out, Below.refl _ _⟩
  go_wp2
  go_loopw [1, 5] (fun l i wr => ∃ (q : Nat) (m : Int), q ≤ n ∧ i = .int .i64 q ∧ l = .int .i64 m ∧ m = left - n - wtL (es.take (q * 1)) ∧ 0 ≤ m ∧ Below w.heap.size w wr) (fun _ i _ => n - (intOf i).toNat)
  case atStart => exact ⟨0, left - n, Nat.zero_le _, rfl, rfl, by simp [wtL], by omega, Below.refl _ _⟩
  case round =>
    obtain ⟨q, m, hq, rfl, rfl, hm, hm0, hB⟩ := hrel
    have HM := uh hm
    have HB := uh hB
    have hm1 : m ≤ 1048576 := by omega
    clear hm hB
    by_cases hlt : q < n
    · have hr := (HH.out.later HB.out).slice
      rcases hr with ⟨e0, _⟩ | ⟨p, o, c2, hv, hp, _, vs, hr, hR⟩
      · omega
      injection hv with e1 _ e3
      subst e1
      subst e3
      obtain ⟨ve, hE, hg⟩ := hR.el hlt hr
      have hq0 : (0 : Int) ≤ (q : Int) := by omega
      have hq3 : (q : Int) < (n : Int) := by omega
      have hwn : wtL (es.take ((q + 1) * 1)) = wtL (es.take (q * 1)) + wtL (el 1 q es) := wt_next 1 q es
      have hwl : wtL (es.take ((q + 1) * 1)) ≤ wtL es := wt_le _ _
      have hze : szd (el 1 q es) := szd_el HZ.out
      obtain ⟨d, hd⟩ : ∃ d, d = el 1 q es := ⟨_, rfl⟩
      rw [← hd] at hwn hze
      have hE1 : Raw wr [.s] d ve := by rw [hd]; exact hE
      have HW := uh (And.intro hwn hwl)
      clear hwn hwl hE hd hR
      obtain ⟨a0, rfl⟩ := typT1 hE1.typ
      obtain rfl := rawT1 hE1
      have gc : wr.cell? ⟨p, o + q, none⟩ = some (.string a0) := by have := rA_get hg 0 _ rfl; simpa using this
      have hsz : a0.size ≤ 9223372036854775807 := by simp only [szd] at hze; exact hze.1
      have HWT : Hid (wtL [Dt.s a0] = a0.size) := by show _ = _; simp [wtL]
      clear hg hE1 hze hr
      by_cases hl2 : m - (a0.size : Int) < 0
      · have HE : Hid (-1 = R) := by show _ = _; have := HW.out; have := HWT.out; have := HM.out; rw [HRR.out, if_neg (by omega)]
        go_wp2
        go_ret
        exact ⟨Pl.ret_int HE.out, HB.out⟩
      · have HE : Hid (m - (a0.size : Int) = left - n - wtL (es.take ((q + 1) * 1))) := by show _ = _; have := HW.out; have := HWT.out; have := HM.out; omega
        go_wp2
        go_roundw
        case rel => exact ⟨q + 1, _, by omega, by go_num, rfl, HE.out, by omega, HB.out⟩
        case measure => simp [intOf]; omega
    · obtain rfl : q = n := by omega
      have el_ : es.length = q * 1 := by obtain ⟨_, _, _, e, t, _⟩ := HH.out.typ.c_r; injection e with e1 e2; injection e1 with e3 e4; subst e3; subst e4; exact t.rows
      have HE : Hid (m = R) := by
        show _ = _; have h2 := HM.out; rw [← el_, List.take_length] at h2
        rw [HRR.out, if_pos (by omega)]; omega
      clear el_
      go_wp2
      go_ret
      exact ⟨Pl.ret_int HE.out, HB.out⟩
end Go.Proofs.Ythmaeeakmmblkaa

namespace Go.Proofs.Ythmaeeakmmblkaa
open Go.RowKit Go.Deep

set_option maxRecDepth 8000 in
set_option maxHeartbeats 8000000 in
theorem eqStringS (n : Nat) (es : List Dt) (v v' : Value) (w : World) (h : Raw w [.row 9 [.s]] [.row n es] [v]) (h' : Raw w [.row 9 [.s]] [.row n es] [v']) :
    Calls Try.prog 9 #[v, v'] w fun e w' => e = .returned (.bool true) ∧ Below w.heap.size w w' := by
  by_cases h0 : n = 0
  · subst h0
    obtain ⟨a, c, rfl⟩ := h.len0
    obtain ⟨a', c', rfl⟩ := h'.len0
    go_enter Try.func9, Try.ntmps9
    go_wp2
    refine wp_loop_rounds 1 ?_
    rw [rounds_succ]
    go_wp2
    go_ret
    exact ⟨rfl, Below.refl _ _⟩
  rcases h.slice with ⟨e0, _⟩ | ⟨p, o, c, rfl, hp, hn, vs, hr, hR⟩
  · exact absurd e0 h0
  rcases h'.slice with ⟨e0, _⟩ | ⟨p', o', c', rfl, hp', _, vs', hr', hR'⟩
  · exact absurd e0 h0
  have HR := uh (And.intro hR (And.intro hr hp))
  have HR' := uh (And.intro hR' (And.intro hr' hp'))
  have hn1 : n ≤ 9223372036854775807 := hn.1
  clear h h' hr hR hp hr' hR' hp' hn
  go_enter Try.func9, Try.ntmps9
  go_wp2
  go_loopw [5] (fun i wr => ∃ q : Nat, q ≤ n ∧ i = .int .i64 q ∧ Below w.heap.size w wr) (fun i _ => n - (intOf i).toNat)
  case atStart => exact ⟨0, Nat.zero_le _, rfl, Below.refl _ _⟩
  case round =>
    obtain ⟨q, hq, rfl, hW⟩ := hrel
    have HB := uh hW
    clear hW
    by_cases hlt : q < n
    · obtain ⟨ve, hE, hg⟩ := (HR.out.1.later HB.out).el hlt (rA_later HR.out.2.1 HR.out.2.2 HB.out)
      obtain ⟨ve', hE', hg'⟩ := (HR'.out.1.later HB.out).el hlt (rA_later HR'.out.2.1 HR'.out.2.2 HB.out)
      have hbp : p < wr.heap.size := Nat.lt_of_lt_of_le HR.out.2.2 HB.out.size
      have hbq : p' < wr.heap.size := Nat.lt_of_lt_of_le HR'.out.2.2 HB.out.size
      have hm0 : (0 : Int) ≤ (q : Int) := by omega
      have hm3 : (q : Int) < (n : Int) := by omega
      have hNE := upst_some wr
      have z1 : ∀ px : UPst wr, p < px.W.heap.size := fun px => px.size hbp
      have z2 : ∀ px : UPst wr, p' < px.W.heap.size := fun px => px.size hbq
      obtain ⟨d, hd⟩ : ∃ d, d = el 1 q es := ⟨_, rfl⟩
      have hE1 : Raw wr [.s] d ve := by rw [hd]; exact hE
      have hE2 : Raw wr [.s] d ve' := by rw [hd]; exact hE'
      obtain ⟨a0, rfl⟩ := typT1 hE1.typ
      obtain rfl := rawT1 hE1
      obtain rfl := rawT1 hE2
      have S1 : ∀ px : UPst wr, px.W.cell? ⟨p, o + q, none⟩ = some (.string a0) := fun px => px.cell (by have := rA_get hg 0 _ rfl; simpa using this) hbp
      have S2 : ∀ px : UPst wr, px.W.cell? ⟨p', o' + q, none⟩ = some (.string a0) := fun px => px.cell (by have := rA_get hg' 0 _ rfl; simpa using this) hbq
      clear hE hE' hE1 hE2 hd hg hg' hbp hbq HR HR'
      go_upto_region 6 with fail
      refine uregion wr (Below.refl _ _) (by kernel_rfl) (by kernel_rfl) ?_
      repeat (first
        | go_big_quiet_skip
        | (go_big_quiet_want; go_big_quiet_op; go_big_quiet_on))
      refine wpQuiet_nil ?_
      intro _ hw'
      obtain ⟨z, hw''⟩ := hw'
      subst hw''
      replace HB := uh (blw_trans HB.out z.ok)
      go_wp2
      go_roundw
      case rel => exact ⟨q + 1, by omega, by go_num, HB.out⟩
      case measure => simp [intOf]; omega
    · go_wp2
      go_ret
      exact ⟨rfl, HB.out⟩
end Go.Proofs.Ythmaeeakmmblkaa

namespace Go.Proofs.Ythmaeeakmmblkaa
open Go.RowKit Go.Deep


set_option maxRecDepth 8000 in
set_option maxHeartbeats 8000000 in
theorem lawSheetFits (ex0 ex1 : ByteArray) (ws : List ByteArray) (va : Option Addr) (vc : Nat) (an : Bool) (w : World) (h : Raw w [.row 9 [.s]] [.row ws.length (txD ws)] [.slice va ws.length vc]) (hz : szd (txD ws)) (hx0 : ex0.size ≤ maxLen) (hx1 : ex1.size ≤ maxLen)
    (hS : ∀ (v : Value) (W : World), Raw W [.row 9 [.s]] [.row ws.length (txD ws)] [v] → Calls Try.prog 6 #[.string ex0, .string ex1, v] W fun e w' => e = .returned (.bool an) ∧ Below W.heap.size W w')
    (hI : ∀ (v : Value) (W : World), ex0.size ≤ 1048576 → ex1.size ≤ 1048576 → ws.length + wtL (txD ws) ≤ 1048576 → Raw W [.row 9 [.s]] [.row ws.length (txD ws)] [v] → Calls Try.prog 8 #[.string ex0, .string ex1, v] W fun e w' => e = .returned (.bool an) ∧ Below W.heap.size W w') :
    Calls Try.prog 3 #[.string ex0, .string ex1, .slice va ws.length vc] w fun e w' => e = .returned (.bool true) ∧ Below w.heap.size w w' := by
  have HR := uh h
  have HZ := uh hz
  have HSP := uh hS
  have HIM := uh hI
  have hy0 : ex0.size ≤ 9223372036854775807 := hx0
  have hy1 : ex1.size ≤ 9223372036854775807 := hx1
  have HB : Hid (Below w.heap.size w w) := Below.refl _ _
  clear h hz hS hI hx0 hx1
  obtain ⟨n, hn⟩ : ∃ n, n = ws.length := ⟨_, rfl⟩
  obtain ⟨es, hes⟩ : ∃ es, es = txD ws := ⟨_, rfl⟩
  rw [← hn] at HR HSP HIM ⊢
  rw [← hes] at HR HSP HIM HZ
  clear hn hes
  go_enter Try.func3, Try.ntmps3
  by_cases ht0 : 1048576 < (ex0.size : Int)
  · go_wp2
    go_ret
    exact ⟨rfl, HB.out⟩
  by_cases ht1 : 1048576 < (ex1.size : Int)
  · go_wp2
    go_ret
    exact ⟨rfl, HB.out⟩
  have HT0 : Hid (ex0.size ≤ 1048576) := by show _ ≤ _; omega
  have HT1 : Hid (ex1.size ≤ 1048576) := by show _ ≤ _; omega
  obtain ⟨m, hm⟩ : ∃ m : Int, m = if ((n + wtL es : Nat) : Int) ≤ 1048576 then 1048576 - ((n + wtL es : Nat) : Int) else -1 := ⟨_, rfl⟩
  have HC := uh (szStringS n es (.slice va n vc) 1048576 w (by omega) (by omega) HR.out HZ.out)
  rw [← hm] at HC
  have HM := uh hm
  clear hm
  go_wp2_with fail
  refine HC.out.mono ?_
  rintro e w1 ⟨rfl, hb⟩
  replace HB := uh hb
  clear hb HC
  by_cases hl : m < 0
  · go_wp2
    go_ret
    exact ⟨rfl, HB.out⟩
  have HW : Hid (n + wtL es ≤ 1048576) := by
    show _ ≤ _; have h2 := HM.out
    split at h2
    · omega
    · omega
  go_wp2_with fail
  refine (toStringS n es (.slice va n vc) w1 (HR.out.later HB.out) HW.out).mono ?_
  rintro e w2 ⟨v2, F2, rfl, rep2, _, _, hb2⟩
  replace HB := uh (blw_trans HB.out hb2)
  have HC := uh (HSP.out v2 w2 rep2.raw)
  obtain ⟨a2, c2, e2⟩ := rep2.raw.len0
  subst e2
  clear rep2 hb2
  go_wp2_with fail
  refine HC.out.mono ?_
  rintro e w3 ⟨rfl, hb⟩
  replace HB := uh (blw_trans HB.out hb)
  clear hb HC
  go_wp2_with fail
  refine (toStringS n es (.slice va n vc) w3 (HR.out.later HB.out) HW.out).mono ?_
  rintro e w4 ⟨v4, F4, rfl, rep4, _, _, hb4⟩
  replace HB := uh (blw_trans HB.out hb4)
  have HR4 := uh rep4.raw
  obtain ⟨a4, c4, e4⟩ := rep4.raw.len0
  subst e4
  clear rep4 hb4
  have HC := uh (HIM.out _ w4 HT0.out HT1.out HW.out HR4.out)
  go_wp2_with fail
  refine HC.out.mono ?_
  rintro e w5 ⟨rfl, hb⟩
  replace HB := uh (blw_trans HB.out hb)
  replace HR4 := uh (HR4.out.later hb)
  clear hb HC
  have hne : (an != an) = false := by simp
  go_wp2_with fail
  refine (toStringS n es (.slice va n vc) w5 (HR.out.later HB.out) HW.out).mono ?_
  rintro e w6 ⟨v6, F6, rfl, rep6, _, _, hb6⟩
  replace HB := uh (blw_trans HB.out hb6)
  have HC := uh (eqStringS n es (.slice a4 n c4) v6 w6 (HR4.out.later hb6) rep6.raw)
  obtain ⟨a6, c6, e6⟩ := rep6.raw.len0
  subst e6
  clear rep6 hb6
  go_wp2_with fail
  refine HC.out.mono ?_
  rintro e w7 ⟨rfl, hb⟩
  replace HB := uh (blw_trans HB.out hb)
  clear hb HC
  go_wp2
  go_ret
  exact ⟨rfl, HB.out⟩

end Go.Proofs.Ythmaeeakmmblkaa
