/-
  Ranks that are all nothing; services that are settled, by the program.
-/
import Derived.ChangeKeysEq
import Derived.Test.YtamhfnlogldpaaaPdP
import Derived.Test.YtamhfnlogldpaaaPsH
namespace Go.Proofs.Ytamhfnlogldpaaa
open Go.RowKit Go.Deep

theorem Try.rksU : Try.prog.underlying 52 = some (.array 5 3) := by kernel_rfl
theorem Try.rksG : Try.prog.eqGuardType Try.prog.depth 52 = false := by kernel_rfl
theorem Try.rksC : Try.prog.cellsOf 3 = 1 := by kernel_rfl
theorem guardRk (p q : Operand) (xs ys : Array Value) (W : World) : (eqGuard .neq 52 p q (.agg xs) (.agg ys)).run Try.prog W = .ok () W := run_eqGuard_agg W _ _ _ _ _ _ Try.rksG
theorem Try.intSize : (Try.prog.info? 3).map (·.size) = some 1 := by kernel_rfl
theorem int_info : ∃ i, Try.prog.info? 3 = some i := by
  have h := Try.intSize
  cases hq : Try.prog.info? 3 with
  | none => rw [hq] at h; simp at h
  | some i => exact ⟨i, rfl⟩
theorem neqRk (a b c d e : Int) (W : World) : (binOp .neq 52 (.agg #[.int .i64 a, .int .i64 b, .int .i64 c, .int .i64 d, .int .i64 e]) (.agg #[.int .i64 0, .int .i64 0, .int .i64 0, .int .i64 0, .int .i64 0])).run Try.prog W = .ok (.bool (!((a == 0) && (b == 0) && (c == 0) && (d == 0) && (e == 0)))) W := by
  obtain ⟨i, hi⟩ := int_info
  rw [run_neq_struct, run_equalIn_array W 9999 _ _ Try.rksU hi, Try.rksC]
  have hr : List.range 5 = [0, 1, 2, 3, 4] := rfl
  rw [hr]
  simp [Op.eqItems, go_sem, Try.underlying3]
  by_cases h0 : a = 0 <;> by_cases h1 : b = 0 <;> by_cases h2 : c = 0 <;> by_cases h3 : d = 0 <;> by_cases h4 : e = 0 <;> simp [h0, h1, h2, h3, h4]

set_option maxRecDepth 8000 in
set_option maxHeartbeats 16000000 in
theorem isSettledI (s : Sv) (w : World) (h1 : 0 ≤ s.per) (h2 : s.per ≤ 1000000) (h3 : 0 ≤ s.load) (h4 : s.load ≤ 1000000) :
    Calls Try.prog 26 #[.agg #[.string s.nm, .int .i64 s.ver, .bool s.gone, .int .i64 s.image, .int .i64 s.want, .int .i64 s.down, .int .i64 s.over, .int .i64 s.next, .int .i64 s.per, .int .i64 s.least, .int .i64 s.most, .int .i64 s.load, .int .i64 s.cool]] w fun e w' => e = .returned (.bool (settledP s)) ∧ Below w.heap.size w w' := by
  obtain ⟨d, hd⟩ : ∃ d, d = desired s := ⟨_, rfl⟩
  obtain ⟨R, hR⟩ : ∃ R, R = settledP s := ⟨_, rfl⟩
  have HR : Hid (R = ((s.per == 0) || ((s.want == d) && (s.cool == 0)))) := by show R = _; rw [hR, hd]; rfl
  rw [← hR]
  have HD0 : Hid (¬ s.per = 0 → ∀ W, Calls Try.prog 53 #[.agg #[.string s.nm, .int .i64 s.ver, .bool s.gone, .int .i64 s.image, .int .i64 s.want, .int .i64 s.down, .int .i64 s.over, .int .i64 s.next, .int .i64 s.per, .int .i64 s.least, .int .i64 s.most, .int .i64 s.load, .int .i64 s.cool]] W fun e w' => e = .returned (.int .i64 d) ∧ Below W.heap.size W w') := by
    intro h0 W
    rw [hd]
    exact demandI s W (by omega) h2 h3 h4
  clear hd hR h1 h2 h3 h4
  obtain ⟨wa, hwa⟩ : ∃ wa, wa = w.alloc (.cells #[.string s.nm, .int .i64 s.ver, .bool s.gone, .int .i64 s.image, .int .i64 s.want, .int .i64 s.down, .int .i64 s.over, .int .i64 s.next, .int .i64 s.per, .int .i64 s.least, .int .i64 s.most, .int .i64 s.load, .int .i64 s.cool] 46) := ⟨_, rfl⟩
  have HB : Hid (Below w.heap.size w wa) := by show Below _ _ _; rw [hwa]; exact blw_alloc (Below.refl _ _) _
  have HX : Hid (LBox wa w.heap.size [.string s.nm, .int .i64 s.ver, .bool s.gone, .int .i64 s.image, .int .i64 s.want, .int .i64 s.down, .int .i64 s.over, .int .i64 s.next, .int .i64 s.per, .int .i64 s.least, .int .i64 s.most, .int .i64 s.load, .int .i64 s.cool]) := by show LBox _ _ _; rw [hwa]; exact LBox.new w _ _ _ rfl
  go_enter Try.func26, Try.ntmps26
  go_upto_region 1 with fail
  rw [← hwa]
  clear hwa
  have yz := HX.out.lt
  have y0 := HX.out.get 0 _ rfl
  have y1 := HX.out.get 1 _ rfl
  have y2 := HX.out.get 2 _ rfl
  have y3 := HX.out.get 3 _ rfl
  have y4 := HX.out.get 4 _ rfl
  have y5 := HX.out.get 5 _ rfl
  have y6 := HX.out.get 6 _ rfl
  have y7 := HX.out.get 7 _ rfl
  have y8 := HX.out.get 8 _ rfl
  have y9 := HX.out.get 9 _ rfl
  have y10 := HX.out.get 10 _ rfl
  have y11 := HX.out.get 11 _ rfl
  have y12 := HX.out.get 12 _ rfl
  have hNE := pst_some wa
  have YZ : ∀ px : Pst wa, w.heap.size < px.W.heap.size := fun px => px.size yz
  have Y0 : ∀ px : Pst wa, px.W.cell? ⟨w.heap.size, 0, none⟩ = some (.string s.nm) := fun px => px.cell y0 yz
  have Y1 : ∀ px : Pst wa, px.W.cell? ⟨w.heap.size, 1, none⟩ = some (.int .i64 s.ver) := fun px => px.cell y1 yz
  have Y2 : ∀ px : Pst wa, px.W.cell? ⟨w.heap.size, 2, none⟩ = some (.bool s.gone) := fun px => px.cell y2 yz
  have Y3 : ∀ px : Pst wa, px.W.cell? ⟨w.heap.size, 3, none⟩ = some (.int .i64 s.image) := fun px => px.cell y3 yz
  have Y4 : ∀ px : Pst wa, px.W.cell? ⟨w.heap.size, 4, none⟩ = some (.int .i64 s.want) := fun px => px.cell y4 yz
  have Y5 : ∀ px : Pst wa, px.W.cell? ⟨w.heap.size, 5, none⟩ = some (.int .i64 s.down) := fun px => px.cell y5 yz
  have Y6 : ∀ px : Pst wa, px.W.cell? ⟨w.heap.size, 6, none⟩ = some (.int .i64 s.over) := fun px => px.cell y6 yz
  have Y7 : ∀ px : Pst wa, px.W.cell? ⟨w.heap.size, 7, none⟩ = some (.int .i64 s.next) := fun px => px.cell y7 yz
  have Y8 : ∀ px : Pst wa, px.W.cell? ⟨w.heap.size, 8, none⟩ = some (.int .i64 s.per) := fun px => px.cell y8 yz
  have Y9 : ∀ px : Pst wa, px.W.cell? ⟨w.heap.size, 9, none⟩ = some (.int .i64 s.least) := fun px => px.cell y9 yz
  have Y10 : ∀ px : Pst wa, px.W.cell? ⟨w.heap.size, 10, none⟩ = some (.int .i64 s.most) := fun px => px.cell y10 yz
  have Y11 : ∀ px : Pst wa, px.W.cell? ⟨w.heap.size, 11, none⟩ = some (.int .i64 s.load) := fun px => px.cell y11 yz
  have Y12 : ∀ px : Pst wa, px.W.cell? ⟨w.heap.size, 12, none⟩ = some (.int .i64 s.cool) := fun px => px.cell y12 yz
  clear yz y0 y1 y2 y3 y4 y5 y6 y7 y8 y9 y10 y11 y12
  cases hp : (s.per == 0)
  · have h0 : ¬ s.per = 0 := by simpa using hp
    have HE1 : Hid (R = ((s.want == d) && (s.cool == 0))) := by show R = _; rw [HR.out, hp]; rfl
    have HD := hid (HD0.out h0)
    clear HR HD0 h0
    cases hw : (s.want == d)
    · have HE : Hid (R = false) := by show R = _; rw [HE1.out, hw]; rfl
      clear HE1
      refine region_class wa (Below.refl _ _) (by kernel_rfl) (by kernel_rfl) ?_
      repeat (first
        | go_big_quiet_skip
        | (go_big_quiet_want; go_big_quiet_op; first | go_big_quiet_on | (apply Exists.intro; refine ⟨fun px => ?_, ?_⟩; (focus (go_at_call 53; refine (HD.out _).mono ?_; rintro e w' ⟨he, hb⟩; exact ⟨he, ⟨w', blw_trans px.ok hb⟩, rfl⟩)); go_big_quiet_on)))
      refine wpQuiet_nil ?_
      intro _ hw'
      obtain ⟨x6, hw''⟩ := hw'
      subst hw''
      go_wp2
      go_ret
      exact ⟨Pl.ret_bool HE.out.symm, blw_trans HB.out x6.ok⟩
    · have HE : Hid (R = (s.cool == 0)) := by show R = _; rw [HE1.out, hw]; rfl
      clear HE1
      refine region_class wa (Below.refl _ _) (by kernel_rfl) (by kernel_rfl) ?_
      repeat (first
        | go_big_quiet_skip
        | (go_big_quiet_want; go_big_quiet_op; first | go_big_quiet_on | (apply Exists.intro; refine ⟨fun px => ?_, ?_⟩; (focus (go_at_call 53; refine (HD.out _).mono ?_; rintro e w' ⟨he, hb⟩; exact ⟨he, ⟨w', blw_trans px.ok hb⟩, rfl⟩)); go_big_quiet_on)))
      refine wpQuiet_nil ?_
      intro _ hw'
      obtain ⟨x6, hw''⟩ := hw'
      subst hw''
      go_wp2
      go_ret
      exact ⟨Pl.ret_bool HE.out.symm, blw_trans HB.out x6.ok⟩
  · have HE : Hid (R = true) := by show R = _; rw [HR.out, hp]; rfl
    clear HR HD0
    refine region_class wa (Below.refl _ _) (by kernel_rfl) (by kernel_rfl) ?_
    repeat (first
      | go_big_quiet_skip
      | (go_big_quiet_want; go_big_quiet_op; go_big_quiet_on))
    refine wpQuiet_nil ?_
    intro _ hw'
    obtain ⟨x6, hw''⟩ := hw'
    subst hw''
    go_wp2
    go_ret
    exact ⟨Pl.ret_bool HE.out.symm, blw_trans HB.out x6.ok⟩

end Go.Proofs.Ytamhfnlogldpaaa
