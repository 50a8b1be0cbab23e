/-
  Stewards: live copies, berths that are to be drained, what a load asks for, by the specification.
-/
import Derived.OwnWalk
import Derived.Laws.AppendOwn
import Derived.Test.YtamhfnlogldpaaaCls
import Derived.Test.YtamhfnlogldpaaaStB
namespace Go.Proofs.Ytamhfnlogldpaaa
open Go.RowKit Go.Deep

theorem grown_of_below {w w' : World} (h : Below w.heap.size w w') : w.grownBy w' none := ⟨h.os, h.tape, h.output, h.size, fun k hk _ => h.block k hk⟩
theorem owns_later {w w' : World} {lo : Nat} {e : TypeId} {size : Nat} {v : Value} {n : Nat} {xs : List Value} (h : w.ownsRow lo e size v n xs) (hb : Below w.heap.size w w') : w'.ownsRow lo e size v n xs :=
  h.kept (grown_of_below hb) (by cases hv : v.ownBlock <;> simp)
theorem owns_slice {w : World} {lo : Nat} {e : TypeId} {size : Nat} {v : Value} {n : Nat} {xs : List Value} (h : w.ownsRow lo e size v n xs) : ∃ a c, v = .slice a n c := by
  rcases h.2 with ⟨rfl, rfl⟩ | ⟨g, cap, cur, rfl, _⟩
  · exact ⟨_, _, rfl⟩
  · exact ⟨_, _, rfl⟩
theorem owns_base {w : World} {B B' e size n : Nat} {v : Value} {xs : List Value} (h : w.ownsRow B' e size v n xs) (hB : B ≤ B') : w.ownsRow B e size v n xs := by
  refine ⟨h.1, ?_⟩
  rcases h.2 with q | ⟨g, cap, cur, q1, q2, q3⟩
  · exact Or.inl q
  · exact Or.inr ⟨g, cap, cur, q1, Nat.le_trans hB q2, q3⟩
theorem info_parts {P : Program} {t : TypeId} {z : Value} {n b : Nat} (h : (P.info? t).map (fun i => (i.zero, i.size, i.bytes)) = some (some z, n, b)) : ∃ i, P.info? t = some i ∧ i.zero = some z ∧ i.size = n ∧ i.bytes = b := by
  obtain ⟨i, hi, hzz⟩ := Option.map_eq_some_iff.1 h
  simp only [Prod.mk.injEq] at hzz
  exact ⟨i, hi, hzz.1, hzz.2.1, hzz.2.2⟩
theorem intInfo : (Try.prog.info? 3).map (fun i => (i.zero, i.size, i.bytes)) = some (some (.int .i64 0), 1, 8) := by kernel_rfl
theorem Try.underInts : Try.prog.underlying 37 = some (.slice 3) := by kernel_rfl

def isLive (c : Cp) (svc : ByteArray) : Bool := same c.svc svc && !c.ending
/-- The places of the live copies of a service. -/
def liveTo (l : List Cp) (svc : ByteArray) : Nat → List Nat
  | 0 => []
  | k + 1 => liveTo l svc k ++ (if isLive (l.getD k Cp.none) svc then [k] else [])
def liveOf (K : SBk) (svc : ByteArray) : List Nat := liveTo K.cps svc K.cps.length
def nums (l : List Nat) : List Value := l.map fun n => Value.int .i64 (n : Nat)
theorem liveTo_len (l : List Cp) (svc : ByteArray) : ∀ k, (liveTo l svc k).length ≤ k
  | 0 => Nat.le_refl _
  | k + 1 => by
    have := liveTo_len l svc k
    rw [liveTo, List.length_append]
    split <;> simp <;> omega
theorem liveTo_lt (l : List Cp) (svc : ByteArray) : ∀ k, ∀ x ∈ liveTo l svc k, x < k ∧ isLive (l.getD x Cp.none) svc = true
  | 0, x, h => by cases h
  | k + 1, x, h => by
    rw [liveTo, List.mem_append] at h
    rcases h with h | h
    · have := liveTo_lt l svc k x h; exact ⟨by omega, this.2⟩
    · split at h
      · rename_i hl; simp at h; subst h; exact ⟨by omega, hl⟩
      · cases h
theorem nums_at {l : List Nat} {i : Nat} (h : i < l.length) : (nums l)[i]? = some (.int .i64 ((l.getD i 0 : Nat) : Int)) := by
  simp [nums, h]

set_option maxRecDepth 8000 in
set_option maxHeartbeats 8000000 in
theorem l16LiveS (K : SBk) (a0 a1 a2 : Option Addr) (c0 c1 c2 : Nat) (svc : ByteArray) (w : World) (h : SBkV w a0 a1 a2 K) (hc : K.cps.length ≤ 1048576) :
    Calls Try.prog 31 #[.agg #[.int .i64 K.now, .slice a0 K.svcs.length c0, .slice a1 K.cps.length c1, .slice a2 K.bts.length c2], .string svc] w fun e w' => (∃ v, e = .returned v ∧ w'.ownsRow w.heap.size 3 1 v (liveOf K svc).length (nums (liveOf K svc))) ∧ Below w.heap.size w w' := by
  have HH : Hid (SBkV w a0 a1 a2 K) := h
  obtain ⟨i0, hi, hz0, hz1, hz2⟩ := info_parts intInfo
  clear h
  obtain ⟨wa, hwa⟩ : ∃ wa, wa = w.alloc (.cells #[.int .i64 K.now, .slice a0 K.svcs.length c0, .slice a1 K.cps.length c1, .slice a2 K.bts.length c2] 33) := ⟨_, rfl⟩
  have HB : Hid (Below w.heap.size w wa) := by show Below _ _ _; rw [hwa]; exact blw_alloc (Below.refl _ _) _
  have HX : Hid (Box4 wa w.heap.size (.int .i64 K.now) (.slice a0 K.svcs.length c0) (.slice a1 K.cps.length c1) (.slice a2 K.bts.length c2)) := by show Box4 _ _ _ _ _ _; rw [hwa]; exact Box4.new' w _ _ _ _ _ _ rfl
  go_enter Try.func31, Try.ntmps31
  go_upto_region 1 with fail
  rw [← hwa]
  clear hwa
  go_wp2
  go_loopw [5, 6] (fun v i wr => ∃ (k : Nat), k ≤ K.cps.length ∧ i = .int .i64 k ∧ wr.ownsRow wa.heap.size 3 1 v (liveTo K.cps svc k).length (nums (liveTo K.cps svc k)) ∧ Below wa.heap.size wa wr) (fun _ i _ => K.cps.length - (intOf i).toNat)
  case atStart => exact ⟨0, Nat.zero_le _, rfl, World.ownsRow_made wa #[] 0 (Nat.le_refl _) (by decide) rfl, blw_alloc (Below.refl _ _) _⟩
  case round =>
    rename_i v _ _
    obtain ⟨k, hk, rfl, hO, hW⟩ := hrel
    have HO := hid hO
    have HW := hid hW
    obtain ⟨a, c, hv⟩ := owns_slice hO
    subst hv
    obtain ⟨yz, y0, y1, y2, y3⟩ := HX.out.later hW
    clear hO hW y0 y1 y3
    by_cases hlt : k < K.cps.length
    · obtain ⟨b1, off1, ha1, hbl1, hf1⟩ := (HH.out.later (blw_trans HB.out HW.out)).c.at_ k hlt
      subst ha1
      obtain ⟨x, hx⟩ : ∃ x, x = K.cps.getD k Cp.none := ⟨_, rfl⟩
      rw [← hx] at hf1
      have e0 := hf1.c0
      have e5 := hf1.c5
      have HS : Hid (liveTo K.cps svc (k + 1) = liveTo K.cps svc k ++ (if isLive x svc then [k] else [])) := by show _ = _; rw [liveTo, ← hx]
      clear hf1 hx
      have hm0 : (0 : Int) ≤ (k : Int) := by omega
      have hm3 : (k : Int) < (K.cps.length : Int) := by omega
      cases g0 : (x.svc.toList == svc.toList)
      · have HN : Hid (liveTo K.cps svc (k + 1) = liveTo K.cps svc k) := by show _ = _; rw [HS.out]; simp [isLive, same, g0]
        clear HS
        go_wp2
        go_roundw
        case rel => exact ⟨k + 1, by omega, by go_num, by rw [HN.out]; exact HO.out, HW.out⟩
        case measure => simp [intOf]; omega
      rcases (Bool.eq_false_or_eq_true x.ending) with g1 | g1
      · have HN : Hid (liveTo K.cps svc (k + 1) = liveTo K.cps svc k) := by show _ = _; rw [HS.out]; simp [isLive, same, g0, g1]
        rw [g1] at e5
        clear HS
        go_wp2
        go_roundw
        case rel => exact ⟨k + 1, by omega, by go_num, by rw [HN.out]; exact HO.out, HW.out⟩
        case measure => simp [intOf]; omega
      · have HN : Hid (liveTo K.cps svc (k + 1) = liveTo K.cps svc k ++ [k]) := by show _ = _; rw [HS.out]; simp [isLive, same, g0, g1]
        rw [g1] at e5
        have hle := liveTo_len K.cps svc k
        obtain ⟨L, hL⟩ : ∃ L, L = liveTo K.cps svc k := ⟨_, rfl⟩
        rw [← hL] at HO HN hle ⊢
        clear HS hL
        have hs2 : wa.heap.size ≤ wr.heap.size := HW.out.size
        go_wp2_with (at_builtin; refine wpList_append_own _ rfl _ _ 37 rfl wa.heap.size 3 i0 (.int .i64 0) 1 8 Try.underInts hi hz0 hz1 hz2 rfl (by decide) (.slice a L.length c) L.length (nums L) rfl ?c0 ⟨wr.heap.size, 0, none⟩ 1 1 [.int .i64 (k : Nat)] rfl ?c1 ?c2 ?c3 ?c4 ?c5 ?c6 ?_)
        case c0 => exact owns_later HO.out (blw_alloc (Below.refl _ _) _)
        case c1 => rfl
        case c2 =>
          intro j u hj
          match j, hj with
          | 0, hj => simp at hj; subst hj; simp [Addr.add]
          | k + 1, hj => simp at hj
        case c3 => intro u hu; simp at hu; subst hu; rfl
        case c4 => unfold maxLen; omega
        case c5 => omega
        case c6 => simp; omega
        intro v' w3 hown hgrow _
        have hbt : Below wr.heap.size wr (wr.alloc (.cells #[.int .i64 (k : Nat)] 3)) := blw_alloc (Below.refl _ _) _
        have HN2 : Hid (w3.ownsRow wa.heap.size 3 1 v' (L ++ [k]).length (nums (L ++ [k]))) := by
          show World.ownsRow _ _ _ _ _ _ _
          simpa [nums] using hown
        have HB3 : Hid (Below wa.heap.size wa w3) := by
          refine Below.grown (blw_trans HW.out hbt) hgrow (blw_trans HW.out hbt).size (fun q hq => ?_)
          exact (World.ownsRow.lt HO.out q hq).1
        clear hown hgrow hbt HO
        go_wp2
        go_roundw
        case rel => exact ⟨k + 1, by omega, by go_num, by rw [HN.out]; exact HN2.out, HB3.out⟩
        case measure => simp [intOf]; omega
    · obtain rfl : k = K.cps.length := by omega
      go_wp2
      go_ret
      exact ⟨⟨_, rfl, owns_base HO.out HB.out.size⟩, blw_trans HB.out HW.out⟩

def drains (K : SBk) (c : Cp) : Bool := if 0 ≤ btIx K.bts c.berth then (btGet K.bts (btIx K.bts c.berth)).drain else false

set_option maxHeartbeats 8000000 in
theorem l16DrainsS (K : SBk) (a0 a1 a2 : Option Addr) (c0 c1 c2 : Nat) (c : Cp) (w : World) (h : SBkV w a0 a1 a2 K) :
    Calls Try.prog 32 #[.agg #[.int .i64 K.now, .slice a0 K.svcs.length c0, .slice a1 K.cps.length c1, .slice a2 K.bts.length c2], .agg #[.string c.svc, .int .i64 c.num, .int .i64 c.ver, .int .i64 c.image, .int .i64 c.state, .bool c.ending, .string c.berth]] w fun e w' => e = .returned (.bool (drains K c)) ∧ Below w.heap.size w w' := by
  have HH : Hid (SBkV w a0 a1 a2 K) := h
  have hl := h.b.len
  unfold maxLen at hl
  clear h
  obtain ⟨R, hR⟩ : ∃ R, R = drains K c := ⟨_, rfl⟩
  have HR := hid hR
  rw [← hR]
  clear hR
  obtain ⟨wa, hwa⟩ : ∃ wa, wa = (w.alloc (.cells #[.int .i64 K.now, .slice a0 K.svcs.length c0, .slice a1 K.cps.length c1, .slice a2 K.bts.length c2] 33)).alloc (.cells #[.string c.svc, .int .i64 c.num, .int .i64 c.ver, .int .i64 c.image, .int .i64 c.state, .bool c.ending, .string c.berth] 63) := ⟨_, rfl⟩
  have HB : Hid (Below w.heap.size w wa) := by show Below _ _ _; rw [hwa]; exact blw_alloc (blw_alloc (Below.refl _ _) _) _
  have HX : Hid (Box4 wa w.heap.size (.int .i64 K.now) (.slice a0 K.svcs.length c0) (.slice a1 K.cps.length c1) (.slice a2 K.bts.length c2)) := by show Box4 _ _ _ _ _ _; rw [hwa]; exact (Box4.new' w _ _ _ _ _ _ rfl).past _
  have HY : Hid (Box7 wa (w.heap.size + 1) (.string c.svc) (.int .i64 c.num) (.int .i64 c.ver) (.int .i64 c.image) (.int .i64 c.state) (.bool c.ending) (.string c.berth)) := by show Box7 _ _ _ _ _ _ _ _ _; rw [hwa]; exact Box7.new' _ _ _ _ _ _ _ _ _ _ (by simp)
  go_enter Try.func32, Try.ntmps32
  go_upto_region 1 with fail
  rw [← hwa]
  clear hwa
  obtain ⟨yz, y0, y1, y2, y3⟩ := HX.out
  obtain ⟨xz, x0, x1, x2, x3, x4, x5, x6⟩ := HY.out
  go_wp2_with fail
  refine (l12BerthIx K a0 a1 a2 c0 c1 c2 c.berth wa (HH.out.later HB.out)).mono ?_
  rintro e w1 ⟨rfl, hb⟩
  have HB1 := hid (blw_trans HB.out hb)
  have HX1 := hid (HX.out.later hb)
  clear yz y0 y1 y2 y3 xz x0 x1 x2 x3 x4 x5 x6 HX HY HB hb
  obtain ⟨yz, y0, y1, y2, y3⟩ := HX1.out
  rcases firstTo_cases (fun i => same (K.bts.getD i Bt.none).nm c.berth) K.bts.length with ⟨he, _⟩ | ⟨k, hk, he, _, _⟩
  · have he' : btIx K.bts c.berth = -1 := he
    have HF : Hid (R = false) := by show R = false; rw [HR.out, drains, he']; rfl
    rw [he']
    clear he he' HR
    go_wp2
    go_ret
    exact ⟨Pl.ret_bool HF.out.symm, HB1.out⟩
  · have he' : btIx K.bts c.berth = k := he
    obtain ⟨b, off, ha, hbl, hf⟩ := (HH.out.later HB1.out).b.at_ k hk
    subst ha
    obtain ⟨m, hm⟩ : ∃ m, m = K.bts.getD k Bt.none := ⟨_, rfl⟩
    rw [← hm] at hf
    have z1 := hf.c1
    have HF : Hid (R = m.drain) := by show R = _; rw [HR.out, drains, he', if_pos (by omega), show btGet K.bts (k : Int) = m by rw [hm]; rfl]
    rw [he']
    clear he he' HR hf hm
    have hm0 : (0 : Int) ≤ (k : Int) := by omega
    have hm3 : (k : Int) < (K.bts.length : Int) := by omega
    go_wp2
    go_ret
    exact ⟨Pl.ret_bool HF.out.symm, HB1.out⟩

/-- What a load asks for. -/
def desired (s : Sv) : Int :=
  if (if Int.tdiv (s.load + s.per - 1) s.per < s.least then s.least else Int.tdiv (s.load + s.per - 1) s.per) > s.most then s.most
  else (if Int.tdiv (s.load + s.per - 1) s.per < s.least then s.least else Int.tdiv (s.load + s.per - 1) s.per)

set_option maxHeartbeats 8000000 in
theorem l16DesiredS (s : Sv) (w : World) (h1 : 0 < s.per) (h2 : s.per ≤ 1000000) (h3 : 0 ≤ s.load) (h4 : s.load ≤ 1000000) :
    Calls Try.prog 20 #[.agg #[.string s.nm, .int .i64 s.ver, .bool s.gone, .int .i64 s.image, .int .i64 s.want, .int .i64 s.down, .int .i64 s.over, .int .i64 s.next, .int .i64 s.per, .int .i64 s.least, .int .i64 s.most, .int .i64 s.load, .int .i64 s.cool]] w fun e w' => e = .returned (.int .i64 (desired s)) ∧ Below w.heap.size w w' := by
  obtain ⟨R, hR⟩ : ∃ R, R = desired s := ⟨_, rfl⟩
  have HR := hid hR
  rw [← hR]
  clear hR
  have hp : ¬ s.per = 0 := by omega
  have hp' : (s.per == 0) = false := by simpa using hp
  obtain ⟨d, hd⟩ : ∃ d, d = Int.tdiv (s.load + s.per - 1) s.per := ⟨_, rfl⟩
  have hd0 : 0 ≤ d := by rw [hd]; exact Int.tdiv_nonneg (by omega) (by omega)
  have hd1 : d ≤ 2000000 := by
    rw [hd]
    have := Int.tdiv_le_self (a := s.load + s.per - 1) s.per (by omega)
    omega
  have HD : Hid (R = if (if d < s.least then s.least else d) > s.most then s.most else (if d < s.least then s.least else d)) := by show R = _; rw [HR.out, hd]; rfl
  clear HR
  have hq : (s.load + s.per - 1).tdiv s.per = d := hd.symm
  clear hd
  obtain ⟨d2, hd2⟩ : ∃ d2, d2 = if d < s.least then s.least else d := ⟨_, rfl⟩
  rw [← hd2] at HD
  by_cases c1 : d < s.least
  all_goals
    first
    | (have e2 : d2 = s.least := by rw [hd2, if_pos c1])
    | (have e2 : d2 = d := by rw [hd2, if_neg c1])
    clear hd2
    rw [e2] at HD
    clear e2
  · by_cases c2 : s.least > s.most
    · have HF : Hid (R = s.most) := by show R = _; rw [HD.out, if_pos c2]
      clear HD
      go_enter Try.func20, Try.ntmps20
      go_wp2
      go_ret
      exact ⟨Pl.ret_int HF.out.symm, blw_alloc (Below.refl _ _) _⟩
    · have HF : Hid (R = s.least) := by show R = _; rw [HD.out, if_neg c2]
      clear HD
      go_enter Try.func20, Try.ntmps20
      go_wp2
      go_ret
      exact ⟨Pl.ret_int HF.out.symm, blw_alloc (Below.refl _ _) _⟩
  · by_cases c2 : d > s.most
    · have HF : Hid (R = s.most) := by show R = _; rw [HD.out, if_pos c2]
      clear HD
      go_enter Try.func20, Try.ntmps20
      go_wp2
      go_ret
      exact ⟨Pl.ret_int HF.out.symm, blw_alloc (Below.refl _ _) _⟩
    · have HF : Hid (R = d) := by show R = _; rw [HD.out, if_neg c2]
      clear HD
      go_enter Try.func20, Try.ntmps20
      go_wp2
      go_ret
      exact ⟨Pl.ret_int HF.out.symm, blw_alloc (Below.refl _ _) _⟩

end Go.Proofs.Ytamhfnlogldpaaa
