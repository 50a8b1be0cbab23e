/-
  Copies of lists of texts.
-/
import Derived.Test.YtgoadeoabmkecaaECs
namespace Go.Proofs.Ytgoadeoabmkecaa
open Go.RowKit Go.Deep

theorem Try.uinfoT1 : (Try.prog.info? 9).map (fun i => (i.zero, i.size, decide (i.bytes ≤ 4096))) = some (some (.string ByteArray.empty), 1, true) := by kernel_rfl
theorem Try.uunderT1 : Try.prog.underlying 27 = some (.slice 9) := by kernel_rfl
theorem umakeT1 (n : Nat) (h : n ≤ 1048576) : ∃ cs : Array Value, cs.size = n * 1 ∧ ∀ W : World,
    (Instr.makeSlice 27 (.int .i64 (n : Int)) (.int .i64 (n : Int))).run Try.prog W = .ok (.slice (some ⟨W.heap.size, 0, none⟩) n n) (W.alloc (.cells cs 9)) := by
  obtain ⟨i, hi, hzz⟩ := Option.map_eq_some_iff.1 Try.uinfoT1
  simp only [Prod.mk.injEq, decide_eq_true_eq] at hzz
  obtain ⟨hz, hs, hb⟩ := hzz
  refine ⟨madeCells ((.string ByteArray.empty) : Value).cells (n * 1), size_madeCells _ _, fun W => ?_⟩
  have hmx : (i.bytes : Int) * (n : Int) ≤ 281474976710656 := by
    have e : ((i.bytes * n : Nat) : Int) ≤ ((4096 * 1048576 : Nat) : Int) := Int.ofNat_le.2 (Nat.mul_le_mul hb h)
    rw [Int.natCast_mul] at e
    exact Int.le_trans e (by decide)
  have hr := run_make (P := Try.prog) W 27 9 i _ Try.uunderT1 hi hz .i64 .i64 n n (by omega) (Int.le_refl _) hmx (by omega)
  simp only [Int.toNat_natCast, hs] at hr
  exact hr
set_option maxRecDepth 8000 in
set_option maxHeartbeats 8000000 in
theorem toStringS (n : Nat) (es : List Dt) (v : Value) (w : World) (h : Raw w [.row 9 [.s]] [.row n es] [v]) (hs : n + wtL es ≤ 1048576) :
    Calls Try.prog 12 #[v] w fun e w' => ∃ v' F, e = .returned v' ∧ Rep w' true [.row 9 [.s]] F [.row n es] [v'] ∧ F.Nodup ∧ (∀ b ∈ F, w.heap.size ≤ b) ∧ Below w.heap.size w w' := by
  obtain ⟨zs, hzs, hmk⟩ := umakeT1 n (by omega)
  by_cases h0 : n = 0
  · subst h0
    have he0 : es = [] := List.eq_nil_of_length_eq_zero (by have := h.typ; obtain ⟨_, _, _, e, t, _⟩ := this.c_r; injection e with e1 e2; injection e1 with e3 e4; subst e3; subst e4; have := t.rows; omega)
    subst he0
    obtain ⟨a, c, rfl⟩ := h.len0
    have hmk0 : ∀ W : World, (Instr.makeSlice 27 (.int .i64 0) (.int .i64 0)).run Try.prog W = .ok (.slice (some ⟨W.heap.size, 0, none⟩) 0 0) (W.alloc (.cells zs 9)) := hmk
    clear hmk
    go_enter Try.func12, Try.ntmps12
    go_wp2
    refine wp_loop_rounds 1 ?_
    rw [rounds_succ]
    go_wp2
    go_ret
    exact ⟨_, [w.heap.size], rfl, Rep.row 9 [.s] w.heap.size 0 0 0 9 0 [] [] [] (OwnBlk.alloc w zs _ _ (by simpa using hzs)) (by simp) (fun _ => ⟨rfl, by simp, rfl, rfl⟩) ⟨Nat.zero_le _, Nat.le_refl _⟩ (rA_nil _ _ _) .nil .nil, by simp, by simp, blw_alloc (Below.refl _ _) _⟩
  rcases h.slice with ⟨e0, _⟩ | ⟨p, o, c, rfl, hp, hn, vs, hr, hR⟩
  · exact absurd e0 h0
  have HR := uh (And.intro hR (And.intro hr hp))
  have HT := uh hR.typ
  have HS := uh hs
  have hn1 : n ≤ 1048576 := by omega
  clear h hr hR hp hs hn
  go_enter Try.func12, Try.ntmps12
  go_wp2
  go_loopw [4] (fun i wr => ∃ (q : Nat) (G : List Nat) (D : List Value), q ≤ n ∧ i = .int .i64 q ∧ Below w.heap.size w wr ∧ Bld wr w.heap.size 9 (n * 1) (reps q [.s]) G (es.take (q * 1)) D) (fun i _ => n - (intOf i).toNat)
  case atStart => exact ⟨0, [], [], Nat.zero_le _, rfl, blw_alloc (Below.refl _ _) _, by rw [Nat.zero_mul, List.take_zero]; exact Bld.nil (OwnBlk.alloc w zs 9 _ hzs)⟩
  case round =>
    obtain ⟨q, G, D, hq, rfl, hW, hD⟩ := hrel
    have HB := uh hW
    have HD := uh hD
    clear hW hD hmk hzs
    by_cases hlt : q < n
    · obtain ⟨ve, hE, hg⟩ := (HR.out.1.later HB.out).el hlt (rA_later HR.out.2.1 HR.out.2.2 HB.out)
      have hbp : p < wr.heap.size := Nat.lt_of_lt_of_le HR.out.2.2 HB.out.size
      have hm0 : (0 : Int) ≤ (q : Int) := by omega
      have hm3 : (q : Int) < (n : Int) := by omega
      have hmul : q * 1 + 1 ≤ n * 1 := by omega
      have hqz := HD.out.own.lt
      have hfz := HD.out.own.frozen
      obtain ⟨d, hd⟩ : ∃ d, d = el 1 q es := ⟨_, rfl⟩
      have hE1 : Raw wr [.s] d ve := by rw [hd]; exact hE
      obtain ⟨a0, rfl⟩ := typT1 hE1.typ
      obtain rfl := rawT1 hE1
      have gc : wr.cell? ⟨p, o + q, none⟩ = some (.string a0) := by have := rA_get hg 0 _ rfl; simpa using this
      obtain ⟨y, hy⟩ : ∃ y, y = wr.setCell ⟨w.heap.size, q, none⟩ (.string a0) := ⟨_, rfl⟩
      have HN : Hid (Below w.heap.size w y ∧ Bld y w.heap.size 9 (n * 1) (reps (q + 1) [.s]) (G ++ []) (es.take ((q + 1) * 1)) (D ++ [.string a0])) := by
        refine ⟨by rw [hy]; exact HB.out.setCell (p := ⟨w.heap.size, q, none⟩) (Nat.le_refl _) _, ?_⟩
        rw [hy, reps_snoc, Nat.succ_mul, el_take, ← hd, List.append_nil]
        exact HD.out.put1 (by rw [reps_len]; simp) (.s a0 .nil) (by omega)
      obtain ⟨ux, eu⟩ := HD.out.own.cell q (by omega)
      clear hE hE1 hd hg HR HD
      go_upto_region 4 with fail
      rw [← hy]
      clear hy eu gc
      go_wp2
      go_roundw
      case rel => exact ⟨q + 1, _, _, by omega, by go_num, HN.out.1, HN.out.2⟩
      case measure => simp [intOf]; omega
    · obtain rfl : q = n := by omega
      have el_ : es.length = q * 1 := HT.out.rows
      rw [← el_, List.take_length, el_] at HD
      go_wp2
      go_ret
      refine ⟨_, w.heap.size :: (G ++ []), rfl, Rep.row 9 [.s] w.heap.size 0 q q 9 (q * 1) D es G HD.out.own (by show 0 + q * 1 ≤ q * 1; omega) (fun _ => ⟨rfl, rfl, rfl, rfl⟩) ⟨by show q ≤ 9223372036854775807; omega, Nat.le_refl _⟩ HD.out.at_ HD.out.rep .nil, ?_, ?_, HB.out⟩
      · rw [List.append_nil, List.nodup_cons]; exact ⟨fun e => Nat.lt_irrefl _ (HD.out.fr _ e), HD.out.nd⟩
      · intro b hb; rw [List.append_nil] at hb; rcases List.mem_cons.1 hb with rfl | hb; exact Nat.le_refl _; exact Nat.le_of_lt (HD.out.fr b hb)
end Go.Proofs.Ytgoadeoabmkecaa
