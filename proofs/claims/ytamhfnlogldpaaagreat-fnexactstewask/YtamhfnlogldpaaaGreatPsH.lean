/-
  Stewards: the scaler, by the program.
-/
import Derived.Test.YtamhfnlogldpaaaGreatPsF
import Derived.Test.YtamhfnlogldpaaaGreatStR
namespace Go.Proofs.YtamhfnlogldpaaaGreat
open Go.RowKit Go.Deep

/-- What lies within Least and Most. -/
def clamp (s : Sv) (x : Int) : Int := if (if x < s.least then s.least else x) > s.most then s.most else (if x < s.least then s.least else x)
set_option maxRecDepth 8000 in
set_option maxHeartbeats 16000000 in
theorem leastMostI (s : Sv) (x : Int) (w : World) :
    Calls Tryz.prog 71 #[.agg #[.string s.nm, .int .i64 s.ver, .bool s.gone, .int .i64 s.image, .int .i64 s.want, .int .i64 s.down, .int .i64 s.over, .int .i64 s.next, .int .i64 s.per, .int .i64 s.least, .int .i64 s.most, .int .i64 s.load, .int .i64 s.cool], .int .i64 x] w fun e w' => e = .returned (.int .i64 (clamp s x)) ∧ Below w.heap.size w w' := by
  obtain ⟨wa, hwa⟩ : ∃ wa, wa = w.alloc (.cells #[.string s.nm, .int .i64 s.ver, .bool s.gone, .int .i64 s.image, .int .i64 s.want, .int .i64 s.down, .int .i64 s.over, .int .i64 s.next, .int .i64 s.per, .int .i64 s.least, .int .i64 s.most, .int .i64 s.load, .int .i64 s.cool] 50) := ⟨_, rfl⟩
  have HB : Hid (Below w.heap.size w wa) := by show Below _ _ _; rw [hwa]; exact blw_alloc (Below.refl _ _) _
  have HX : Hid (LBox wa w.heap.size [.string s.nm, .int .i64 s.ver, .bool s.gone, .int .i64 s.image, .int .i64 s.want, .int .i64 s.down, .int .i64 s.over, .int .i64 s.next, .int .i64 s.per, .int .i64 s.least, .int .i64 s.most, .int .i64 s.load, .int .i64 s.cool]) := by show LBox _ _ _; rw [hwa]; exact LBox.new w _ _ _ rfl
  go_enter Tryz.func71, Tryz.ntmps71
  go_upto_region 1 with fail
  rw [← hwa]
  clear hwa
  have yz := HX.out.lt
  have y9 := HX.out.get 9 _ rfl
  have y10 := HX.out.get 10 _ rfl
  go_wp2
  all_goals
    go_ret
    refine ⟨Pl.ret_int ?_, HB.out⟩
    unfold clamp
    (repeat' split) <;> omega

set_option maxRecDepth 8000 in
set_option maxHeartbeats 16000000 in
theorem scaleToI (x y : Int) (w : World) :
    Calls Tryz.prog 72 #[.int .i64 x, .int .i64 y] w fun e w' => e = .returned (.tuple #[.agg #[.string ByteArray.empty, .int .i64 0, .int .i64 0, .int .i64 x, .int .i64 y, .bool true, .slice none 0 0, .bool false], .bool true]) ∧ Below w.heap.size w w' := by
  obtain ⟨wa, hwa⟩ : ∃ wa, wa = w.alloc (.cells #[.string { data := #[] }, .int .i64 0, .int .i64 0, .int .i64 0, .int .i64 0, .bool false, .slice none 0 0, .bool false] 47) := ⟨_, rfl⟩
  have HB : Hid (Below w.heap.size w wa) := by show Below _ _ _; rw [hwa]; exact blw_alloc (Below.refl _ _) _
  have HR : Hid (OwnBlk wa w.heap.size 47 8) := by show OwnBlk _ _ _ _; rw [hwa]; exact OwnBlk.alloc_at2 _ _ _ _ _ rfl rfl
  go_enter Tryz.func72, Tryz.ntmps72
  go_upto_region 1 with fail
  rw [← hwa]
  clear hwa
  have hth := RY.own_there HR.out
  have hrt : World.rangeAt (wa.setCells w.heap.size 0 [.string ByteArray.empty, .int .i64 0, .int .i64 0, .int .i64 x, .int .i64 y, .bool true, .slice none 0 0, .bool false]) w.heap.size 0 [.string ByteArray.empty, .int .i64 0, .int .i64 0, .int .i64 x, .int .i64 y, .bool true, .slice none 0 0, .bool false] := World.rangeAt_setCells_same _ _ _ _ hth
  go_wp2_with (refine wpList_store_mid rfl 47 _ _ rfl w.heap.size 0 #[.string ByteArray.empty, .int .i64 0, .int .i64 0, .int .i64 x, .int .i64 y, .bool true, .slice none 0 0, .bool false] rfl rfl hth (by kernel_rfl) (by simp [Value.oneCell']) ?_)
  refine bodyPost_ret (v := .tuple #[.agg #[.string ByteArray.empty, .int .i64 0, .int .i64 0, .int .i64 x, .int .i64 y, .bool true, .slice none 0 0, .bool false], .bool true]) (by simp [results, Tryz.results72, asAddr, run_loadVar_mid (P := Tryz.prog) _ _ _ 47 [.string ByteArray.empty, .int .i64 0, .int .i64 0, .int .i64 x, .int .i64 y, .bool true, .slice none 0 0, .bool false] _ hrt Tryz.underlying47 rfl (by kernel_rfl)]) rfl ?_
  exact ⟨rfl, setCells_below HB.out (Nat.le_refl _) _ _⟩

theorem desired_clamp (s : Sv) : desired s = clamp s (Int.tdiv (s.load + s.per - 1) s.per) := rfl
set_option maxRecDepth 8000 in
set_option maxHeartbeats 16000000 in
theorem demandI (s : Sv) (w : World) (h1 : 0 < s.per) (h2 : s.per ≤ 1000000) (h3 : 0 ≤ s.load) (h4 : s.load ≤ 1000000) :
    Calls Tryz.prog 73 #[.agg #[.string s.nm, .int .i64 s.ver, .bool s.gone, .int .i64 s.image, .int .i64 s.want, .int .i64 s.down, .int .i64 s.over, .int .i64 s.next, .int .i64 s.per, .int .i64 s.least, .int .i64 s.most, .int .i64 s.load, .int .i64 s.cool]] w fun e w' => e = .returned (.int .i64 (desired s)) ∧ Below w.heap.size w w' := by
  have hp : ¬ s.per = 0 := by omega
  have hp' : (s.per == 0) = false := by simpa using hp
  obtain ⟨d, hd⟩ : ∃ d, d = Int.tdiv (s.load + s.per - 1) s.per := ⟨_, rfl⟩
  have hd0 : 0 ≤ d := by rw [hd]; exact Int.tdiv_nonneg (by omega) (by omega)
  have hd1 : d ≤ 2000000 := by
    rw [hd]
    have := Int.tdiv_le_self (a := s.load + s.per - 1) s.per (by omega)
    omega
  rw [desired_clamp, ← hd]
  have hq : (s.load + s.per - 1).tdiv s.per = d := hd.symm
  clear hd
  obtain ⟨wa, hwa⟩ : ∃ wa, wa = w.alloc (.cells #[.string s.nm, .int .i64 s.ver, .bool s.gone, .int .i64 s.image, .int .i64 s.want, .int .i64 s.down, .int .i64 s.over, .int .i64 s.next, .int .i64 s.per, .int .i64 s.least, .int .i64 s.most, .int .i64 s.load, .int .i64 s.cool] 50) := ⟨_, rfl⟩
  have HB : Hid (Below w.heap.size w wa) := by show Below _ _ _; rw [hwa]; exact blw_alloc (Below.refl _ _) _
  have HX : Hid (LBox wa w.heap.size [.string s.nm, .int .i64 s.ver, .bool s.gone, .int .i64 s.image, .int .i64 s.want, .int .i64 s.down, .int .i64 s.over, .int .i64 s.next, .int .i64 s.per, .int .i64 s.least, .int .i64 s.most, .int .i64 s.load, .int .i64 s.cool]) := by show LBox _ _ _; rw [hwa]; exact LBox.new w _ _ _ rfl
  go_enter Tryz.func73, Tryz.ntmps73
  go_upto_region 1 with fail
  rw [← hwa]
  clear hwa
  have yz := HX.out.lt
  have y0 := HX.out.get 0 _ rfl
  have y1 := HX.out.get 1 _ rfl
  have y2 := HX.out.get 2 _ rfl
  have y3 := HX.out.get 3 _ rfl
  have y4 := HX.out.get 4 _ rfl
  have y5 := HX.out.get 5 _ rfl
  have y6 := HX.out.get 6 _ rfl
  have y7 := HX.out.get 7 _ rfl
  have y8 := HX.out.get 8 _ rfl
  have y9 := HX.out.get 9 _ rfl
  have y10 := HX.out.get 10 _ rfl
  have y11 := HX.out.get 11 _ rfl
  have y12 := HX.out.get 12 _ rfl
  have hNE := pst_some wa
  have YZ : ∀ px : Pst wa, w.heap.size < px.W.heap.size := fun px => px.size yz
  have Y0 : ∀ px : Pst wa, px.W.cell? ⟨w.heap.size, 0, none⟩ = some (.string s.nm) := fun px => px.cell y0 yz
  have Y1 : ∀ px : Pst wa, px.W.cell? ⟨w.heap.size, 1, none⟩ = some (.int .i64 s.ver) := fun px => px.cell y1 yz
  have Y2 : ∀ px : Pst wa, px.W.cell? ⟨w.heap.size, 2, none⟩ = some (.bool s.gone) := fun px => px.cell y2 yz
  have Y3 : ∀ px : Pst wa, px.W.cell? ⟨w.heap.size, 3, none⟩ = some (.int .i64 s.image) := fun px => px.cell y3 yz
  have Y4 : ∀ px : Pst wa, px.W.cell? ⟨w.heap.size, 4, none⟩ = some (.int .i64 s.want) := fun px => px.cell y4 yz
  have Y5 : ∀ px : Pst wa, px.W.cell? ⟨w.heap.size, 5, none⟩ = some (.int .i64 s.down) := fun px => px.cell y5 yz
  have Y6 : ∀ px : Pst wa, px.W.cell? ⟨w.heap.size, 6, none⟩ = some (.int .i64 s.over) := fun px => px.cell y6 yz
  have Y7 : ∀ px : Pst wa, px.W.cell? ⟨w.heap.size, 7, none⟩ = some (.int .i64 s.next) := fun px => px.cell y7 yz
  have Y8 : ∀ px : Pst wa, px.W.cell? ⟨w.heap.size, 8, none⟩ = some (.int .i64 s.per) := fun px => px.cell y8 yz
  have Y9 : ∀ px : Pst wa, px.W.cell? ⟨w.heap.size, 9, none⟩ = some (.int .i64 s.least) := fun px => px.cell y9 yz
  have Y10 : ∀ px : Pst wa, px.W.cell? ⟨w.heap.size, 10, none⟩ = some (.int .i64 s.most) := fun px => px.cell y10 yz
  have Y11 : ∀ px : Pst wa, px.W.cell? ⟨w.heap.size, 11, none⟩ = some (.int .i64 s.load) := fun px => px.cell y11 yz
  have Y12 : ∀ px : Pst wa, px.W.cell? ⟨w.heap.size, 12, none⟩ = some (.int .i64 s.cool) := fun px => px.cell y12 yz
  refine region_class wa (Below.refl _ _) (by kernel_rfl) (by kernel_rfl) ?_
  repeat (first
    | go_big_quiet_skip
    | (go_big_quiet_want; go_big_quiet_op; first | go_big_quiet_on | (apply Exists.intro; refine ⟨fun px => ?_, ?_⟩; (focus (go_at_call 71; refine (leastMostI s d _).mono ?_; rintro e w' ⟨he, hb⟩; exact ⟨he, ⟨w', blw_trans px.ok hb⟩, rfl⟩)); go_big_quiet_on)))
  refine wpQuiet_nil ?_
  intro _ hw'
  obtain ⟨x6, hw''⟩ := hw'
  subst hw''
  go_wp2
  go_ret
  exact ⟨rfl, blw_trans HB.out x6.ok⟩

/-- What a scaler asks: the want, the cool, whether it is asked for. -/
def scaP (s : Sv) : Int × Int × Bool :=
  if (s.gone || (s.per == 0)) = true then (0, 0, false)
  else if clamp s s.want ≠ s.want then (clamp s s.want, 0, true)
  else if s.want < desired s then (desired s, 0, true)
  else if (decide (desired s < s.want) && (s.cool == 3)) = true then (s.want - 1, 0, true)
  else if desired s < s.want then (s.want, s.cool + 1, true)
  else if s.cool ≠ 0 then (s.want, 0, true) else (0, 0, false)
set_option maxRecDepth 8000 in
set_option maxHeartbeats 16000000 in
theorem scalerI (K : SBk) (a0 a1 a2 : Option Addr) (c0 c1 c2 : Nat) (s : Sv) (n : Cn) (al : Option Addr) (cl : Nat) (L : List Cp) (lv : Int) (w : World) (hp0 : 0 ≤ s.per) (hp1 : s.per ≤ 1000000) (hl0 : 0 ≤ s.load) (hl1 : s.load ≤ 1000000) (hw0 : 0 ≤ s.want) (hw1 : s.want ≤ 10) (hc0 : 0 ≤ s.cool) (hc1 : s.cool ≤ 3) :
    Calls Tryz.prog 27 #[.agg #[.int .i64 K.now, .slice a0 K.svcs.length c0, .slice a1 K.cps.length c1, .slice a2 K.bts.length c2, .string s.nm, .int .i64 s.ver, .bool s.gone, .int .i64 s.image, .int .i64 s.want, .int .i64 s.down, .int .i64 s.over, .int .i64 s.next, .int .i64 s.per, .int .i64 s.least, .int .i64 s.most, .int .i64 s.load, .int .i64 s.cool, .int .i64 n.live, .int .i64 n.ready, .int .i64 n.old, .int .i64 n.failed, .int .i64 n.ending, .slice al L.length cl, .int .i64 lv]] w fun e w' => e = .returned (.tuple #[.agg #[.string ByteArray.empty, .int .i64 0, .int .i64 0, .int .i64 (scaP s).1, .int .i64 (scaP s).2.1, .bool (scaP s).2.2, .slice none 0 0, .bool false], .bool (scaP s).2.2]) ∧ Below w.heap.size w w' := by
  obtain ⟨R, hR⟩ : ∃ R, R = scaP s := ⟨_, rfl⟩
  rw [← hR]
  have HE := hid hR
  clear hR
  obtain ⟨wa, hwa⟩ : ∃ wa, wa = (w.alloc (.cells #[.int .i64 K.now, .slice a0 K.svcs.length c0, .slice a1 K.cps.length c1, .slice a2 K.bts.length c2, .string s.nm, .int .i64 s.ver, .bool s.gone, .int .i64 s.image, .int .i64 s.want, .int .i64 s.down, .int .i64 s.over, .int .i64 s.next, .int .i64 s.per, .int .i64 s.least, .int .i64 s.most, .int .i64 s.load, .int .i64 s.cool, .int .i64 n.live, .int .i64 n.ready, .int .i64 n.old, .int .i64 n.failed, .int .i64 n.ending, .slice al L.length cl, .int .i64 lv] 58)).alloc (.cells #[.string { data := #[] }, .int .i64 0, .int .i64 0, .int .i64 0, .int .i64 0, .bool false, .slice none 0 0, .bool false] 47) := ⟨_, rfl⟩
  have HB : Hid (Below w.heap.size w wa) := by show Below _ _ _; rw [hwa]; exact blw_alloc (blw_alloc (Below.refl _ _) _) _
  have HX : Hid (LBox wa w.heap.size [.int .i64 K.now, .slice a0 K.svcs.length c0, .slice a1 K.cps.length c1, .slice a2 K.bts.length c2, .string s.nm, .int .i64 s.ver, .bool s.gone, .int .i64 s.image, .int .i64 s.want, .int .i64 s.down, .int .i64 s.over, .int .i64 s.next, .int .i64 s.per, .int .i64 s.least, .int .i64 s.most, .int .i64 s.load, .int .i64 s.cool, .int .i64 n.live, .int .i64 n.ready, .int .i64 n.old, .int .i64 n.failed, .int .i64 n.ending, .slice al L.length cl, .int .i64 lv]) := by show LBox _ _ _; rw [hwa]; exact (LBox.new w _ _ _ rfl).past _
  have HR : Hid (OwnBlk wa (w.heap.size + 1) 47 8) := by show OwnBlk _ _ _ _; rw [hwa]; exact OwnBlk.alloc_at2 _ _ _ _ _ rfl (by simp)
  have hz1 : w.heap.size + 1 < wa.heap.size := HR.out.lt
  go_enter Tryz.func27, Tryz.ntmps27
  go_upto_region 1 with fail
  rw [← hwa]
  clear hwa
  obtain ⟨wb, hwb⟩ : ∃ wb, wb = wa.alloc (.cells #[.string s.nm, .int .i64 s.ver, .bool s.gone, .int .i64 s.image, .int .i64 s.want, .int .i64 s.down, .int .i64 s.over, .int .i64 s.next, .int .i64 s.per, .int .i64 s.least, .int .i64 s.most, .int .i64 s.load, .int .i64 s.cool] 50) := ⟨_, rfl⟩
  have hbb : Below wa.heap.size wa wb := by rw [hwb]; exact blw_alloc (Below.refl _ _) _
  obtain ⟨q, hq⟩ : ∃ q, q = wa.heap.size := ⟨_, rfl⟩
  have HSb : Hid (LBox wb q [.string s.nm, .int .i64 s.ver, .bool s.gone, .int .i64 s.image, .int .i64 s.want, .int .i64 s.down, .int .i64 s.over, .int .i64 s.next, .int .i64 s.per, .int .i64 s.least, .int .i64 s.most, .int .i64 s.load, .int .i64 s.cool]) := by show LBox _ _ _; rw [hwb]; exact LBox.new _ _ _ _ hq
  have hmid := HX.out.mid (xs := [.int .i64 K.now, .slice a0 K.svcs.length c0, .slice a1 K.cps.length c1, .slice a2 K.bts.length c2]) (bs := [.string s.nm, .int .i64 s.ver, .bool s.gone, .int .i64 s.image, .int .i64 s.want, .int .i64 s.down, .int .i64 s.over, .int .i64 s.next, .int .i64 s.per, .int .i64 s.least, .int .i64 s.most, .int .i64 s.load, .int .i64 s.cool]) (ds := [.int .i64 n.live, .int .i64 n.ready, .int .i64 n.old, .int .i64 n.failed, .int .i64 n.ending, .slice al L.length cl, .int .i64 lv]) rfl
  have yz := HX.out.lt
  go_upto_region 2 with (refine wpList_load_mid rfl 50 _ rfl w.heap.size 4 rfl [.string s.nm, .int .i64 s.ver, .bool s.gone, .int .i64 s.image, .int .i64 s.want, .int .i64 s.down, .int .i64 s.over, .int .i64 s.next, .int .i64 s.per, .int .i64 s.least, .int .i64 s.most, .int .i64 s.load, .int .i64 s.cool] _ hmid Tryz.underlying50 rfl (by kernel_rfl) ?_)
  obtain ⟨G, hG⟩ : ∃ G : Value, G = .agg #[.int .i64 K.now, .slice a0 K.svcs.length c0, .slice a1 K.cps.length c1, .slice a2 K.bts.length c2, .string s.nm, .int .i64 s.ver, .bool s.gone, .int .i64 s.image, .int .i64 s.want, .int .i64 s.down, .int .i64 s.over, .int .i64 s.next, .int .i64 s.per, .int .i64 s.least, .int .i64 s.most, .int .i64 s.load, .int .i64 s.cool, .int .i64 n.live, .int .i64 n.ready, .int .i64 n.old, .int .i64 n.failed, .int .i64 n.ending, .slice al L.length cl, .int .i64 lv] := ⟨_, rfl⟩
  rw [← hwb, ← hG, ← hq]
  have HBb := hid (blw_trans HB.out hbb)
  have HRb := hid (HR.out.later hbb)
  clear hwb hG hbb hmid yz HX HR HB hq
  have tz := HSb.out.lt
  have t0 := HSb.out.get 0 _ rfl
  have t1 := HSb.out.get 1 _ rfl
  have t2 := HSb.out.get 2 _ rfl
  have t3 := HSb.out.get 3 _ rfl
  have t4 := HSb.out.get 4 _ rfl
  have t5 := HSb.out.get 5 _ rfl
  have t6 := HSb.out.get 6 _ rfl
  have t7 := HSb.out.get 7 _ rfl
  have t8 := HSb.out.get 8 _ rfl
  have t9 := HSb.out.get 9 _ rfl
  have t10 := HSb.out.get 10 _ rfl
  have t11 := HSb.out.get 11 _ rfl
  have t12 := HSb.out.get 12 _ rfl
  rcases (Bool.eq_false_or_eq_true s.gone) with hg | hg
  · have t2' := t2
    rw [hg] at t2'
    clear t2
    have HN : Hid (R = (0, 0, false)) := by show R = _; rw [HE.out]; simp [scaP, hg]
    clear HE hg
    have hth := RY.own_there HRb.out
    have hrt : World.rangeAt (wb.setCells (w.heap.size + 1) 0 [.string ByteArray.empty, .int .i64 0, .int .i64 0, .int .i64 0, .int .i64 0, .bool false, .slice none 0 0, .bool false]) (w.heap.size + 1) 0 [.string ByteArray.empty, .int .i64 0, .int .i64 0, .int .i64 0, .int .i64 0, .bool false, .slice none 0 0, .bool false] := World.rangeAt_setCells_same _ _ _ _ hth
    go_wp2_with (refine wpList_store_mid rfl 47 _ _ rfl (w.heap.size + 1) 0 #[.string ByteArray.empty, .int .i64 0, .int .i64 0, .int .i64 0, .int .i64 0, .bool false, .slice none 0 0, .bool false] rfl rfl hth (by kernel_rfl) (by simp [Value.oneCell']) ?_)
    refine bodyPost_ret (v := .tuple #[.agg #[.string ByteArray.empty, .int .i64 0, .int .i64 0, .int .i64 0, .int .i64 0, .bool false, .slice none 0 0, .bool false], .bool false]) (by simp [results, Tryz.results27, asAddr, run_loadVar_mid (P := Tryz.prog) _ _ _ 47 [.string ByteArray.empty, .int .i64 0, .int .i64 0, .int .i64 0, .int .i64 0, .bool false, .slice none 0 0, .bool false] _ hrt Tryz.underlying47 rfl (by kernel_rfl)]) rfl ?_
    rw [HN.out]
    exact ⟨rfl, setCells_below HBb.out (by omega) _ _⟩
  have t2' := t2
  rw [hg] at t2'
  by_cases p0 : s.per = 0
  · have p0' : (s.per == 0) = true := by simp [p0]
    have HN : Hid (R = (0, 0, false)) := by show R = _; rw [HE.out]; simp [scaP, p0]
    clear HE hg p0 t2
    have hth := RY.own_there HRb.out
    have hrt : World.rangeAt (wb.setCells (w.heap.size + 1) 0 [.string ByteArray.empty, .int .i64 0, .int .i64 0, .int .i64 0, .int .i64 0, .bool false, .slice none 0 0, .bool false]) (w.heap.size + 1) 0 [.string ByteArray.empty, .int .i64 0, .int .i64 0, .int .i64 0, .int .i64 0, .bool false, .slice none 0 0, .bool false] := World.rangeAt_setCells_same _ _ _ _ hth
    go_wp2_with (refine wpList_store_mid rfl 47 _ _ rfl (w.heap.size + 1) 0 #[.string ByteArray.empty, .int .i64 0, .int .i64 0, .int .i64 0, .int .i64 0, .bool false, .slice none 0 0, .bool false] rfl rfl hth (by kernel_rfl) (by simp [Value.oneCell']) ?_)
    refine bodyPost_ret (v := .tuple #[.agg #[.string ByteArray.empty, .int .i64 0, .int .i64 0, .int .i64 0, .int .i64 0, .bool false, .slice none 0 0, .bool false], .bool false]) (by simp [results, Tryz.results27, asAddr, run_loadVar_mid (P := Tryz.prog) _ _ _ 47 [.string ByteArray.empty, .int .i64 0, .int .i64 0, .int .i64 0, .int .i64 0, .bool false, .slice none 0 0, .bool false] _ hrt Tryz.underlying47 rfl (by kernel_rfl)]) rfl ?_
    rw [HN.out]
    exact ⟨rfl, setCells_below HBb.out (by omega) _ _⟩
  have p0' : (s.per == 0) = false := by simp [p0]
  have HE2 : Hid (R = if clamp s s.want ≠ s.want then (clamp s s.want, 0, true) else if s.want < desired s then (desired s, 0, true) else if (decide (desired s < s.want) && (s.cool == 3)) = true then (s.want - 1, 0, true) else if desired s < s.want then (s.want, s.cool + 1, true) else if s.cool ≠ 0 then (s.want, 0, true) else (0, 0, false)) := by show R = _; rw [HE.out, scaP, hg, p0']; rfl
  clear HE hg
  have t2s := t2
  clear t2
  go_upto_region 4 with fail
  clear t2'
  have t2 := t2s
  clear t2s
  go_wp2_with fail
  refine (leastMostI s s.want wb).mono ?_
  rintro e w1 ⟨rfl, hb1⟩
  obtain ⟨m, hm⟩ : ∃ m, m = clamp s s.want := ⟨_, rfl⟩
  rw [← hm] at HE2 ⊢
  have HB1 := hid (blw_trans HBb.out hb1)
  have HR1 := hid (HRb.out.later hb1)
  have HS1 := hid (HSb.out.later hb1)
  clear hm hb1 HBb HRb HSb tz t0 t1 t2 t3 t4 t5 t6 t7 t8 t9 t10 t11 t12
  have tz := HS1.out.lt
  have t0 := HS1.out.get 0 _ rfl
  have t1 := HS1.out.get 1 _ rfl
  have t2 := HS1.out.get 2 _ rfl
  have t3 := HS1.out.get 3 _ rfl
  have t4 := HS1.out.get 4 _ rfl
  have t5 := HS1.out.get 5 _ rfl
  have t6 := HS1.out.get 6 _ rfl
  have t7 := HS1.out.get 7 _ rfl
  have t8 := HS1.out.get 8 _ rfl
  have t9 := HS1.out.get 9 _ rfl
  have t10 := HS1.out.get 10 _ rfl
  have t11 := HS1.out.get 11 _ rfl
  have t12 := HS1.out.get 12 _ rfl
  by_cases m0 : m = s.want
  case neg =>
    have m0' : (m != s.want) = true := by simp [m0]
    have HN : Hid (R = (m, 0, true)) := by show R = _; rw [HE2.out, if_pos m0]
    clear HE2 m0
    go_wp2_with fail
    refine (scaleToI m 0 w1).mono ?_
    rintro e w2 ⟨rfl, hb2⟩
    have HB2 := hid (blw_trans HB1.out hb2)
    have HR2 := hid (HR1.out.later hb2)
    clear hb2
    have hth := RY.own_there HR2.out
    have hrt : World.rangeAt (w2.setCells (w.heap.size + 1) 0 [.string ByteArray.empty, .int .i64 0, .int .i64 0, .int .i64 m, .int .i64 0, .bool true, .slice none 0 0, .bool false]) (w.heap.size + 1) 0 [.string ByteArray.empty, .int .i64 0, .int .i64 0, .int .i64 m, .int .i64 0, .bool true, .slice none 0 0, .bool false] := World.rangeAt_setCells_same _ _ _ _ hth
    go_wp2_with (refine wpList_store_mid rfl 47 _ _ rfl (w.heap.size + 1) 0 #[.string ByteArray.empty, .int .i64 0, .int .i64 0, .int .i64 m, .int .i64 0, .bool true, .slice none 0 0, .bool false] rfl rfl hth (by kernel_rfl) (by simp [Value.oneCell']) ?_)
    refine bodyPost_ret (v := .tuple #[.agg #[.string ByteArray.empty, .int .i64 0, .int .i64 0, .int .i64 m, .int .i64 0, .bool true, .slice none 0 0, .bool false], .bool true]) (by simp [results, Tryz.results27, asAddr, run_loadVar_mid (P := Tryz.prog) _ _ _ 47 [.string ByteArray.empty, .int .i64 0, .int .i64 0, .int .i64 m, .int .i64 0, .bool true, .slice none 0 0, .bool false] _ hrt Tryz.underlying47 rfl (by kernel_rfl)]) rfl ?_
    rw [HN.out]
    exact ⟨rfl, setCells_below HB2.out (by omega) _ _⟩
  have m0' : (m != s.want) = false := by simp [m0]
  rw [if_neg (by simpa using m0)] at HE2
  clear m0
  go_wp2_with fail
  refine (demandI s w1 (by omega) hp1 hl0 hl1).mono ?_
  rintro e w2 ⟨rfl, hb2⟩
  obtain ⟨d, hd⟩ : ∃ d, d = desired s := ⟨_, rfl⟩
  rw [← hd] at HE2 ⊢
  have HB2 := hid (blw_trans HB1.out hb2)
  have HR2 := hid (HR1.out.later hb2)
  have HS2 := hid (HS1.out.later hb2)
  clear hd hb2 HB1 HR1 HS1 m0' tz t0 t1 t2 t3 t4 t5 t6 t7 t8 t9 t10 t11 t12
  have tz := HS2.out.lt
  have t4 := HS2.out.get 4 _ rfl
  have t12 := HS2.out.get 12 _ rfl
  by_cases d1 : s.want < d
  · have HN : Hid (R = (d, 0, true)) := by show R = _; rw [HE2.out, if_pos d1]
    clear HE2
    go_wp2_with fail
    refine (scaleToI d 0 w2).mono ?_
    rintro e w3 ⟨rfl, hb3⟩
    have HB3 := hid (blw_trans HB2.out hb3)
    have HR3 := hid (HR2.out.later hb3)
    clear hb3
    have hth := RY.own_there HR3.out
    have hrt : World.rangeAt (w3.setCells (w.heap.size + 1) 0 [.string ByteArray.empty, .int .i64 0, .int .i64 0, .int .i64 d, .int .i64 0, .bool true, .slice none 0 0, .bool false]) (w.heap.size + 1) 0 [.string ByteArray.empty, .int .i64 0, .int .i64 0, .int .i64 d, .int .i64 0, .bool true, .slice none 0 0, .bool false] := World.rangeAt_setCells_same _ _ _ _ hth
    go_wp2_with (refine wpList_store_mid rfl 47 _ _ rfl (w.heap.size + 1) 0 #[.string ByteArray.empty, .int .i64 0, .int .i64 0, .int .i64 d, .int .i64 0, .bool true, .slice none 0 0, .bool false] rfl rfl hth (by kernel_rfl) (by simp [Value.oneCell']) ?_)
    refine bodyPost_ret (v := .tuple #[.agg #[.string ByteArray.empty, .int .i64 0, .int .i64 0, .int .i64 d, .int .i64 0, .bool true, .slice none 0 0, .bool false], .bool true]) (by simp [results, Tryz.results27, asAddr, run_loadVar_mid (P := Tryz.prog) _ _ _ 47 [.string ByteArray.empty, .int .i64 0, .int .i64 0, .int .i64 d, .int .i64 0, .bool true, .slice none 0 0, .bool false] _ hrt Tryz.underlying47 rfl (by kernel_rfl)]) rfl ?_
    rw [HN.out]
    exact ⟨rfl, setCells_below HB3.out (by omega) _ _⟩
  rw [if_neg d1] at HE2
  by_cases d2 : d < s.want
  · by_cases d3 : s.cool = 3
    · have d3' : (s.cool == 3) = true := by simp [d3]
      have HN : Hid (R = (s.want - 1, 0, true)) := by show R = _; rw [HE2.out, if_pos (by simp [d2, d3])]
      clear HE2 d3
      go_wp2_with fail
      refine (scaleToI (s.want - 1) 0 w2).mono ?_
      rintro e w3 ⟨rfl, hb3⟩
      have HB3 := hid (blw_trans HB2.out hb3)
      have HR3 := hid (HR2.out.later hb3)
      clear hb3
      have hth := RY.own_there HR3.out
      have hrt : World.rangeAt (w3.setCells (w.heap.size + 1) 0 [.string ByteArray.empty, .int .i64 0, .int .i64 0, .int .i64 (s.want - 1), .int .i64 0, .bool true, .slice none 0 0, .bool false]) (w.heap.size + 1) 0 [.string ByteArray.empty, .int .i64 0, .int .i64 0, .int .i64 (s.want - 1), .int .i64 0, .bool true, .slice none 0 0, .bool false] := World.rangeAt_setCells_same _ _ _ _ hth
      go_wp2_with (refine wpList_store_mid rfl 47 _ _ rfl (w.heap.size + 1) 0 #[.string ByteArray.empty, .int .i64 0, .int .i64 0, .int .i64 (s.want - 1), .int .i64 0, .bool true, .slice none 0 0, .bool false] rfl rfl hth (by kernel_rfl) (by simp [Value.oneCell']) ?_)
      refine bodyPost_ret (v := .tuple #[.agg #[.string ByteArray.empty, .int .i64 0, .int .i64 0, .int .i64 (s.want - 1), .int .i64 0, .bool true, .slice none 0 0, .bool false], .bool true]) (by simp [results, Tryz.results27, asAddr, run_loadVar_mid (P := Tryz.prog) _ _ _ 47 [.string ByteArray.empty, .int .i64 0, .int .i64 0, .int .i64 (s.want - 1), .int .i64 0, .bool true, .slice none 0 0, .bool false] _ hrt Tryz.underlying47 rfl (by kernel_rfl)]) rfl ?_
      rw [HN.out]
      exact ⟨rfl, setCells_below HB3.out (by omega) _ _⟩
    · have d3' : (s.cool == 3) = false := by simp [d3]
      have HN : Hid (R = (s.want, s.cool + 1, true)) := by show R = _; rw [HE2.out, if_neg (by simp [d3]), if_pos d2]
      clear HE2 d3
      go_wp2_with fail
      refine (scaleToI s.want (s.cool + 1) w2).mono ?_
      rintro e w3 ⟨rfl, hb3⟩
      have HB3 := hid (blw_trans HB2.out hb3)
      have HR3 := hid (HR2.out.later hb3)
      clear hb3
      have hth := RY.own_there HR3.out
      have hrt : World.rangeAt (w3.setCells (w.heap.size + 1) 0 [.string ByteArray.empty, .int .i64 0, .int .i64 0, .int .i64 s.want, .int .i64 (s.cool + 1), .bool true, .slice none 0 0, .bool false]) (w.heap.size + 1) 0 [.string ByteArray.empty, .int .i64 0, .int .i64 0, .int .i64 s.want, .int .i64 (s.cool + 1), .bool true, .slice none 0 0, .bool false] := World.rangeAt_setCells_same _ _ _ _ hth
      go_wp2_with (refine wpList_store_mid rfl 47 _ _ rfl (w.heap.size + 1) 0 #[.string ByteArray.empty, .int .i64 0, .int .i64 0, .int .i64 s.want, .int .i64 (s.cool + 1), .bool true, .slice none 0 0, .bool false] rfl rfl hth (by kernel_rfl) (by simp [Value.oneCell']) ?_)
      refine bodyPost_ret (v := .tuple #[.agg #[.string ByteArray.empty, .int .i64 0, .int .i64 0, .int .i64 s.want, .int .i64 (s.cool + 1), .bool true, .slice none 0 0, .bool false], .bool true]) (by simp [results, Tryz.results27, asAddr, run_loadVar_mid (P := Tryz.prog) _ _ _ 47 [.string ByteArray.empty, .int .i64 0, .int .i64 0, .int .i64 s.want, .int .i64 (s.cool + 1), .bool true, .slice none 0 0, .bool false] _ hrt Tryz.underlying47 rfl (by kernel_rfl)]) rfl ?_
      rw [HN.out]
      exact ⟨rfl, setCells_below HB3.out (by omega) _ _⟩
  rw [if_neg (by simp [d2]), if_neg d2] at HE2
  by_cases d4 : s.cool = 0
  · have d4' : (s.cool != 0) = false := by simp [d4]
    have HN : Hid (R = (0, 0, false)) := by show R = _; rw [HE2.out, if_neg (by simpa using d4)]
    clear HE2 d4
    have hth := RY.own_there HR2.out
    have hrt : World.rangeAt (w2.setCells (w.heap.size + 1) 0 [.string ByteArray.empty, .int .i64 0, .int .i64 0, .int .i64 0, .int .i64 0, .bool false, .slice none 0 0, .bool false]) (w.heap.size + 1) 0 [.string ByteArray.empty, .int .i64 0, .int .i64 0, .int .i64 0, .int .i64 0, .bool false, .slice none 0 0, .bool false] := World.rangeAt_setCells_same _ _ _ _ hth
    go_wp2_with (refine wpList_store_mid rfl 47 _ _ rfl (w.heap.size + 1) 0 #[.string ByteArray.empty, .int .i64 0, .int .i64 0, .int .i64 0, .int .i64 0, .bool false, .slice none 0 0, .bool false] rfl rfl hth (by kernel_rfl) (by simp [Value.oneCell']) ?_)
    refine bodyPost_ret (v := .tuple #[.agg #[.string ByteArray.empty, .int .i64 0, .int .i64 0, .int .i64 0, .int .i64 0, .bool false, .slice none 0 0, .bool false], .bool false]) (by simp [results, Tryz.results27, asAddr, run_loadVar_mid (P := Tryz.prog) _ _ _ 47 [.string ByteArray.empty, .int .i64 0, .int .i64 0, .int .i64 0, .int .i64 0, .bool false, .slice none 0 0, .bool false] _ hrt Tryz.underlying47 rfl (by kernel_rfl)]) rfl ?_
    rw [HN.out]
    exact ⟨rfl, setCells_below HB2.out (by omega) _ _⟩
  have d4' : (s.cool != 0) = true := by simp [d4]
  have HN : Hid (R = (s.want, 0, true)) := by show R = _; rw [HE2.out, if_pos d4]
  clear HE2 d4
  go_wp2_with fail
  refine (scaleToI s.want 0 w2).mono ?_
  rintro e w3 ⟨rfl, hb3⟩
  have HB3 := hid (blw_trans HB2.out hb3)
  have HR3 := hid (HR2.out.later hb3)
  clear hb3
  have hth := RY.own_there HR3.out
  have hrt : World.rangeAt (w3.setCells (w.heap.size + 1) 0 [.string ByteArray.empty, .int .i64 0, .int .i64 0, .int .i64 s.want, .int .i64 0, .bool true, .slice none 0 0, .bool false]) (w.heap.size + 1) 0 [.string ByteArray.empty, .int .i64 0, .int .i64 0, .int .i64 s.want, .int .i64 0, .bool true, .slice none 0 0, .bool false] := World.rangeAt_setCells_same _ _ _ _ hth
  go_wp2_with (refine wpList_store_mid rfl 47 _ _ rfl (w.heap.size + 1) 0 #[.string ByteArray.empty, .int .i64 0, .int .i64 0, .int .i64 s.want, .int .i64 0, .bool true, .slice none 0 0, .bool false] rfl rfl hth (by kernel_rfl) (by simp [Value.oneCell']) ?_)
  refine bodyPost_ret (v := .tuple #[.agg #[.string ByteArray.empty, .int .i64 0, .int .i64 0, .int .i64 s.want, .int .i64 0, .bool true, .slice none 0 0, .bool false], .bool true]) (by simp [results, Tryz.results27, asAddr, run_loadVar_mid (P := Tryz.prog) _ _ _ 47 [.string ByteArray.empty, .int .i64 0, .int .i64 0, .int .i64 s.want, .int .i64 0, .bool true, .slice none 0 0, .bool false] _ hrt Tryz.underlying47 rfl (by kernel_rfl)]) rfl ?_
  rw [HN.out]
  exact ⟨rfl, setCells_below HB3.out (by omega) _ _⟩

end Go.Proofs.YtamhfnlogldpaaaGreat
