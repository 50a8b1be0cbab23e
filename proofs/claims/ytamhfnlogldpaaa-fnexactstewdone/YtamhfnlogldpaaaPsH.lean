/-
  Stewards: the scaler, by the program.
-/
import Derived.Test.YtamhfnlogldpaaaPsF
import Derived.Test.YtamhfnlogldpaaaStH
namespace Go.Proofs.Ytamhfnlogldpaaa
open Go.RowKit Go.Deep

/-- What lies within Least and Most. -/
def clamp (s : Sv) (x : Int) : Int := if (if x < s.least then s.least else x) > s.most then s.most else (if x < s.least then s.least else x)
set_option maxRecDepth 8000 in
set_option maxHeartbeats 16000000 in
theorem leastMostI (s : Sv) (x : Int) (w : World) :
    Calls Try.prog 83 #[.agg #[.string s.nm, .int .i64 s.ver, .bool s.gone, .int .i64 s.image, .int .i64 s.want, .int .i64 s.down, .int .i64 s.over, .int .i64 s.next, .int .i64 s.per, .int .i64 s.least, .int .i64 s.most, .int .i64 s.load, .int .i64 s.cool], .int .i64 x] w fun e w' => e = .returned (.int .i64 (clamp s x)) ∧ Below w.heap.size w w' := by
  obtain ⟨wa, hwa⟩ : ∃ wa, wa = w.alloc (.cells #[.string s.nm, .int .i64 s.ver, .bool s.gone, .int .i64 s.image, .int .i64 s.want, .int .i64 s.down, .int .i64 s.over, .int .i64 s.next, .int .i64 s.per, .int .i64 s.least, .int .i64 s.most, .int .i64 s.load, .int .i64 s.cool] 46) := ⟨_, rfl⟩
  have HB : Hid (Below w.heap.size w wa) := by show Below _ _ _; rw [hwa]; exact blw_alloc (Below.refl _ _) _
  have HX : Hid (LBox wa w.heap.size [.string s.nm, .int .i64 s.ver, .bool s.gone, .int .i64 s.image, .int .i64 s.want, .int .i64 s.down, .int .i64 s.over, .int .i64 s.next, .int .i64 s.per, .int .i64 s.least, .int .i64 s.most, .int .i64 s.load, .int .i64 s.cool]) := by show LBox _ _ _; rw [hwa]; exact LBox.new w _ _ _ rfl
  go_enter Try.func83, Try.ntmps83
  go_upto_region 1 with fail
  rw [← hwa]
  clear hwa
  have yz := HX.out.lt
  have y9 := HX.out.get 9 _ rfl
  have y10 := HX.out.get 10 _ rfl
  go_wp2
  all_goals
    go_ret
    refine ⟨Pl.ret_int ?_, HB.out⟩
    unfold clamp
    (repeat' split) <;> omega

theorem desired_clamp (s : Sv) : desired s = clamp s (Int.tdiv (s.load + s.per - 1) s.per) := rfl
set_option maxRecDepth 8000 in
set_option maxHeartbeats 16000000 in
theorem demandI (s : Sv) (w : World) (h1 : 0 < s.per) (h2 : s.per ≤ 1000000) (h3 : 0 ≤ s.load) (h4 : s.load ≤ 1000000) :
    Calls Try.prog 53 #[.agg #[.string s.nm, .int .i64 s.ver, .bool s.gone, .int .i64 s.image, .int .i64 s.want, .int .i64 s.down, .int .i64 s.over, .int .i64 s.next, .int .i64 s.per, .int .i64 s.least, .int .i64 s.most, .int .i64 s.load, .int .i64 s.cool]] w fun e w' => e = .returned (.int .i64 (desired s)) ∧ Below w.heap.size w w' := by
  have hp : ¬ s.per = 0 := by omega
  have hp' : (s.per == 0) = false := by simpa using hp
  obtain ⟨d, hd⟩ : ∃ d, d = Int.tdiv (s.load + s.per - 1) s.per := ⟨_, rfl⟩
  have hd0 : 0 ≤ d := by rw [hd]; exact Int.tdiv_nonneg (by omega) (by omega)
  have hd1 : d ≤ 2000000 := by
    rw [hd]
    have := Int.tdiv_le_self (a := s.load + s.per - 1) s.per (by omega)
    omega
  rw [desired_clamp, ← hd]
  have hq : (s.load + s.per - 1).tdiv s.per = d := hd.symm
  clear hd
  obtain ⟨wa, hwa⟩ : ∃ wa, wa = w.alloc (.cells #[.string s.nm, .int .i64 s.ver, .bool s.gone, .int .i64 s.image, .int .i64 s.want, .int .i64 s.down, .int .i64 s.over, .int .i64 s.next, .int .i64 s.per, .int .i64 s.least, .int .i64 s.most, .int .i64 s.load, .int .i64 s.cool] 46) := ⟨_, rfl⟩
  have HB : Hid (Below w.heap.size w wa) := by show Below _ _ _; rw [hwa]; exact blw_alloc (Below.refl _ _) _
  have HX : Hid (LBox wa w.heap.size [.string s.nm, .int .i64 s.ver, .bool s.gone, .int .i64 s.image, .int .i64 s.want, .int .i64 s.down, .int .i64 s.over, .int .i64 s.next, .int .i64 s.per, .int .i64 s.least, .int .i64 s.most, .int .i64 s.load, .int .i64 s.cool]) := by show LBox _ _ _; rw [hwa]; exact LBox.new w _ _ _ rfl
  go_enter Try.func53, Try.ntmps53
  go_upto_region 1 with fail
  rw [← hwa]
  clear hwa
  have yz := HX.out.lt
  have y0 := HX.out.get 0 _ rfl
  have y1 := HX.out.get 1 _ rfl
  have y2 := HX.out.get 2 _ rfl
  have y3 := HX.out.get 3 _ rfl
  have y4 := HX.out.get 4 _ rfl
  have y5 := HX.out.get 5 _ rfl
  have y6 := HX.out.get 6 _ rfl
  have y7 := HX.out.get 7 _ rfl
  have y8 := HX.out.get 8 _ rfl
  have y9 := HX.out.get 9 _ rfl
  have y10 := HX.out.get 10 _ rfl
  have y11 := HX.out.get 11 _ rfl
  have y12 := HX.out.get 12 _ rfl
  have hNE := pst_some wa
  have YZ : ∀ px : Pst wa, w.heap.size < px.W.heap.size := fun px => px.size yz
  have Y0 : ∀ px : Pst wa, px.W.cell? ⟨w.heap.size, 0, none⟩ = some (.string s.nm) := fun px => px.cell y0 yz
  have Y1 : ∀ px : Pst wa, px.W.cell? ⟨w.heap.size, 1, none⟩ = some (.int .i64 s.ver) := fun px => px.cell y1 yz
  have Y2 : ∀ px : Pst wa, px.W.cell? ⟨w.heap.size, 2, none⟩ = some (.bool s.gone) := fun px => px.cell y2 yz
  have Y3 : ∀ px : Pst wa, px.W.cell? ⟨w.heap.size, 3, none⟩ = some (.int .i64 s.image) := fun px => px.cell y3 yz
  have Y4 : ∀ px : Pst wa, px.W.cell? ⟨w.heap.size, 4, none⟩ = some (.int .i64 s.want) := fun px => px.cell y4 yz
  have Y5 : ∀ px : Pst wa, px.W.cell? ⟨w.heap.size, 5, none⟩ = some (.int .i64 s.down) := fun px => px.cell y5 yz
  have Y6 : ∀ px : Pst wa, px.W.cell? ⟨w.heap.size, 6, none⟩ = some (.int .i64 s.over) := fun px => px.cell y6 yz
  have Y7 : ∀ px : Pst wa, px.W.cell? ⟨w.heap.size, 7, none⟩ = some (.int .i64 s.next) := fun px => px.cell y7 yz
  have Y8 : ∀ px : Pst wa, px.W.cell? ⟨w.heap.size, 8, none⟩ = some (.int .i64 s.per) := fun px => px.cell y8 yz
  have Y9 : ∀ px : Pst wa, px.W.cell? ⟨w.heap.size, 9, none⟩ = some (.int .i64 s.least) := fun px => px.cell y9 yz
  have Y10 : ∀ px : Pst wa, px.W.cell? ⟨w.heap.size, 10, none⟩ = some (.int .i64 s.most) := fun px => px.cell y10 yz
  have Y11 : ∀ px : Pst wa, px.W.cell? ⟨w.heap.size, 11, none⟩ = some (.int .i64 s.load) := fun px => px.cell y11 yz
  have Y12 : ∀ px : Pst wa, px.W.cell? ⟨w.heap.size, 12, none⟩ = some (.int .i64 s.cool) := fun px => px.cell y12 yz
  refine region_class wa (Below.refl _ _) (by kernel_rfl) (by kernel_rfl) ?_
  repeat (first
    | go_big_quiet_skip
    | (go_big_quiet_want; go_big_quiet_op; first | go_big_quiet_on | (apply Exists.intro; refine ⟨fun px => ?_, ?_⟩; (focus (go_at_call 83; refine (leastMostI s d _).mono ?_; rintro e w' ⟨he, hb⟩; exact ⟨he, ⟨w', blw_trans px.ok hb⟩, rfl⟩)); go_big_quiet_on)))
  refine wpQuiet_nil ?_
  intro _ hw'
  obtain ⟨x6, hw''⟩ := hw'
  subst hw''
  go_wp2
  go_ret
  exact ⟨rfl, blw_trans HB.out x6.ok⟩

/-- What a scaler asks: the want, the cool, whether it is asked for. -/
def scaP (s : Sv) : Int × Int × Bool :=
  if (s.gone || (s.per == 0)) = true then (0, 0, false)
  else if clamp s s.want ≠ s.want then (clamp s s.want, 0, true)
  else if s.want < desired s then (desired s, 0, true)
  else if (decide (desired s < s.want) && (s.cool == 3)) = true then (s.want - 1, 0, true)
  else if desired s < s.want then (s.want, s.cool + 1, true)
  else if s.cool ≠ 0 then (s.want, 0, true) else (0, 0, false)
end Go.Proofs.Ytamhfnlogldpaaa
