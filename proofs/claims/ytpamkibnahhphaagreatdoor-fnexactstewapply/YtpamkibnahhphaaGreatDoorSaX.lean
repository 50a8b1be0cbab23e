/-
  Stewards: what an act does, by the specification.
-/
import Derived.Test.YtpamkibnahhphaaGreatDoorMemAc
import Derived.Test.YtpamkibnahhphaaGreatDoorStF
import Derived.Test.YtpamkibnahhphaaGreatDoorOwS
import Derived.Test.YtpamkibnahhphaaGreatDoorStB
namespace Go.Proofs.YtpamkibnahhphaaGreatDoor
open Go.RowKit Go.Deep

structure EnsV (w : World) (a : Option Addr) (ms : List En) : Prop where
  len : ms.length ≤ maxLen
  at_ : ∀ i, i < ms.length → ∃ b off, a = some ⟨b, off, none⟩ ∧ b < w.heap.size ∧ EnIs w b (off + i * 2) (ms.getD i En.none)
theorem EnsV.later {w w' : World} {a : Option Addr} {ms : List En} (h : EnsV w a ms) (hb : Below w.heap.size w w') : EnsV w' a ms :=
  ⟨h.len, fun i hi => by obtain ⟨b, off, e, hl, hf⟩ := h.at_ i hi; exact ⟨b, off, e, Nat.lt_of_lt_of_le hl hb.size, hf.later hb hl⟩⟩
theorem EnsIn.v {w : World} {B : Nat} {ms : List En} (h : EnsIn w B ms) : EnsV w (some ⟨B, 0, none⟩) ms :=
  ⟨by have := h.len; unfold maxLen; omega, fun i hi => ⟨B, 0, rfl, h.lt, by rw [Nat.zero_add]; exact h.at_ i hi⟩⟩

def endAt (X : Ac) (i : Nat) : Bool := decide (i = 0) || decide ((X.ends.getD (i - 1) En.none).num < (X.ends.getD i En.none).num)
def acScale (X : Ac) : Bool := if X.scale then inB X.want 0 10 && inB X.cool 0 3 else X.want == 0 && X.cool == 0
def acDrop (X : Ac) : Bool := !X.drop || (X.create == 0 && !X.scale && X.ends.length == 0)
def acOk (X : Ac) : Bool := inB X.create 0 20 && decide (X.ends.length ≤ 200) && allTo (endAt X) X.ends.length && (acScale X && acDrop X)

set_option maxRecDepth 8000 in
set_option maxHeartbeats 40000000 in
theorem l15ActOkS (X : Ac) (a : Option Addr) (c : Nat) (w : World) (h : EnsV w a X.ends) :
    Calls Tryz.prog 49 #[.agg #[.string X.svc, .int .i64 X.seen, .int .i64 X.create, .int .i64 X.want, .int .i64 X.cool, .bool X.scale, .slice a X.ends.length c, .bool X.drop]] w fun e w' => e = .returned (.bool (acOk X)) ∧ Below w.heap.size w w' := by
  have HH := hid h
  have hl := h.len
  unfold maxLen at hl
  clear h
  obtain ⟨R, hR⟩ : ∃ R, R = acOk X := ⟨_, rfl⟩
  have HR := hid hR
  rw [← hR]
  clear hR
  obtain ⟨wa, hwa⟩ : ∃ wa, wa = w.alloc (.cells #[.string X.svc, .int .i64 X.seen, .int .i64 X.create, .int .i64 X.want, .int .i64 X.cool, .bool X.scale, .slice a X.ends.length c, .bool X.drop] 42) := ⟨_, rfl⟩
  have HB : Hid (Below w.heap.size w wa) := by show Below _ _ _; rw [hwa]; exact blw_alloc (Below.refl _ _) _
  have HX : Hid (BoxA wa w.heap.size (.string X.svc) (.int .i64 X.seen) (.int .i64 X.create) (.int .i64 X.want) (.int .i64 X.cool) (.bool X.scale) (.slice a X.ends.length c) (.bool X.drop)) := by show BoxA _ _ _ _ _ _ _ _ _ _ ; rw [hwa]; exact BoxA.new' w _ _ _ _ _ _ _ _ _ _ rfl
  go_enter Tryz.func49, Tryz.ntmps49
  go_upto_region 1 with fail
  rw [← hwa]
  clear hwa
  obtain ⟨yz, y0, y1, y2, y3, y4, y5, y6, y7⟩ := HX.out
  cases c1 : inB X.create 0 20
  · have HE : Hid (R = false) := by show R = _; rw [HR.out, acOk, c1]; rfl
    clear HR
    go_wp2_with (go_at_call 44; refine (l12InS _ _ _ _).mono ?_; rintro e w' ⟨rfl, rfl⟩)
    go_ret
    exact ⟨Pl.ret_bool HE.out.symm, HB.out⟩
  rcases (Decidable.em (X.ends.length ≤ 200)).symm with g0 | g0
  · have HE : Hid (R = false) := by show R = _; rw [HR.out, acOk]; simp [g0]
    clear HR
    go_wp2_with (go_at_call 44; refine (l12InS _ _ _ _).mono ?_; rintro e w' ⟨rfl, rfl⟩)
    go_ret
    exact ⟨Pl.ret_bool HE.out.symm, HB.out⟩
  have HS : Hid (R = (allTo (endAt X) X.ends.length && (acScale X && acDrop X))) := by show R = _; rw [HR.out, acOk, c1]; simp [g0]
  clear HR
  go_wp2_with (go_at_call 44; refine (l12InS _ _ _ _).mono ?_; rintro e w' ⟨rfl, rfl⟩)
  clear c1
  go_loopw [3] (fun i wr => ∃ q : Nat, 1 ≤ q ∧ (q = 1 ∨ q ≤ X.ends.length) ∧ i = .int .i64 q ∧ allTo (endAt X) q = true ∧ ∃ n, wr = wa.drewN n) (fun i _ => X.ends.length - (intOf i).toNat)
  case atStart => exact ⟨1, Nat.le_refl _, Or.inl rfl, rfl, rfl, 0, rfl⟩
  case round =>
    obtain ⟨q, hq1, hq, rfl, ha, n, rfl⟩ := hrel
    have HQ := hid ha
    clear ha
    by_cases hlt : q < X.ends.length
    · obtain ⟨m, rfl⟩ : ∃ m, q = m + 1 := ⟨q - 1, by omega⟩
      obtain ⟨b, off, ha, hbl, hv⟩ := (HH.out.later HB.out).at_ (m + 1) hlt
      obtain ⟨b2, off2, ha2, _, hv2⟩ := (HH.out.later HB.out).at_ m (by omega)
      subst ha
      injection ha2 with ha2
      injection ha2 with hb2 ho2 _
      subst hb2 ho2
      have e0 := hv.c0
      have d0 := hv2.c0
      obtain ⟨x, hx⟩ : ∃ x, x = (X.ends.getD (m + 1) En.none).num := ⟨_, rfl⟩
      obtain ⟨y, hy⟩ : ∃ y, y = (X.ends.getD m En.none).num := ⟨_, rfl⟩
      rw [← hx] at e0
      rw [← hy] at d0
      have HP : Hid (endAt X (m + 1) = decide (y < x)) := by show _ = _; rw [endAt, Nat.add_sub_cancel, ← hx, ← hy]; simp
      have hm0 : (0 : Int) ≤ (m : Int) := by omega
      have hm3 : (m : Int) < (X.ends.length : Int) := by omega
      have hm4 : ((m : Int) + 1) < (X.ends.length : Int) := by omega
      have hm5 : (0 : Int) ≤ (m : Int) + 1 := by omega
      have hm8 : ((m : Int) + 1 - 1) = (m : Int) := by omega
      clear hv hv2 hx hy
      by_cases k : y < x
      · have kd : decide (x ≤ y) = false := decide_eq_false (by omega)
        have HN : Hid (allTo (endAt X) (m + 1 + 1) = true) := by show (allTo _ (m + 1) && endAt X (m + 1)) = true; rw [HQ.out, HP.out]; simp [k]
        go_wp2
        go_quiet (fail)
        go_wp2
        go_roundw
        case rel => exact ⟨m + 1 + 1, by omega, Or.inr (by omega), by go_num, HN.out, _, rfl⟩
        case measure => simp [intOf]; omega
      · have kd : decide (x ≤ y) = true := decide_eq_true (by omega)
        have HE : Hid (R = false) := by show R = false; rw [HS.out, allTo_false (k := m + 1) (by rw [HP.out]; simp [k]) _ hlt]; rfl
        go_wp2
        go_quiet (fail)
        go_wp2
        go_ret
        exact ⟨Pl.ret_bool HE.out.symm, blw_drewN (blw_drewN HB.out _) _⟩
    · have HA : Hid (R = (acScale X && acDrop X)) := by
        show R = _
        rw [HS.out, (allTo_iff (endAt X) X.ends.length).2 (fun i hi => (allTo_iff (endAt X) q).1 HQ.out i (by omega))]
        rfl
      clear HS HQ
      cases hs : X.scale
      · skip
        cases k1 : (X.want == 0)
        · skip
          have k1n : (X.want != 0) = true := by simp [bne, k1]
          have HE : Hid (R = false) := by show R = _; rw [HA.out, acScale, acDrop]; simp [hs, k1]
          clear HA
          go_wp2_with (go_at_call 44; refine (l12InS _ _ _ _).mono ?_; rintro e w' ⟨rfl, rfl⟩)
          go_ret
          exact ⟨Pl.ret_bool HE.out.symm, blw_drewN HB.out _⟩
        · skip
          have k1n : (X.want != 0) = false := by simp [bne, k1]
          cases k2 : (X.cool == 0)
          · skip
            have k2n : (X.cool != 0) = true := by simp [bne, k2]
            have HE : Hid (R = false) := by show R = _; rw [HA.out, acScale, acDrop]; simp [hs, k1, k2]
            clear HA
            go_wp2_with (go_at_call 44; refine (l12InS _ _ _ _).mono ?_; rintro e w' ⟨rfl, rfl⟩)
            go_ret
            exact ⟨Pl.ret_bool HE.out.symm, blw_drewN HB.out _⟩
          · skip
            have k2n : (X.cool != 0) = false := by simp [bne, k2]
            cases hd : X.drop
            · skip
              have HE : Hid (R = true) := by show R = _; rw [HA.out, acScale, acDrop]; simp [hs, k1, k2, hd]
              clear HA
              go_wp2_with (go_at_call 44; refine (l12InS _ _ _ _).mono ?_; rintro e w' ⟨rfl, rfl⟩)
              go_ret
              exact ⟨Pl.ret_bool HE.out.symm, blw_drewN HB.out _⟩
            · skip
              cases k3 : (X.create == 0)
              · skip
                have k3n : (X.create != 0) = true := by simp [bne, k3]
                have HE : Hid (R = false) := by show R = _; rw [HA.out, acScale, acDrop]; simp [hs, k1, k2, hd, k3]
                clear HA
                go_wp2_with (go_at_call 44; refine (l12InS _ _ _ _).mono ?_; rintro e w' ⟨rfl, rfl⟩)
                go_ret
                exact ⟨Pl.ret_bool HE.out.symm, blw_drewN HB.out _⟩
              · skip
                have k3n : (X.create != 0) = false := by simp [bne, k3]
                cases ke : (X.ends.length == 0)
                · skip
                  have ken : (((X.ends.length : Nat) : Int) == 0) = false := by simpa using ke
                  have HE : Hid (R = false) := by show R = _; rw [HA.out, acScale, acDrop]; simp [hs, k1, k2, hd, k3, ke]
                  clear HA
                  go_wp2_with (go_at_call 44; refine (l12InS _ _ _ _).mono ?_; rintro e w' ⟨rfl, rfl⟩)
                  go_ret
                  exact ⟨Pl.ret_bool HE.out.symm, blw_drewN HB.out _⟩
                · skip
                  have ken : (((X.ends.length : Nat) : Int) == 0) = true := by simpa using ke
                  have HE : Hid (R = true) := by show R = _; rw [HA.out, acScale, acDrop]; simp [hs, k1, k2, hd, k3, ke]
                  clear HA
                  go_wp2_with (go_at_call 44; refine (l12InS _ _ _ _).mono ?_; rintro e w' ⟨rfl, rfl⟩)
                  go_ret
                  exact ⟨Pl.ret_bool HE.out.symm, blw_drewN HB.out _⟩
      · skip
        cases i1 : inB X.want 0 10
        · skip
          have HE : Hid (R = false) := by show R = _; rw [HA.out, acScale, acDrop]; simp [hs, i1]
          clear HA
          go_wp2_with (go_at_call 44; refine (l12InS _ _ _ _).mono ?_; rintro e w' ⟨rfl, rfl⟩)
          go_ret
          exact ⟨Pl.ret_bool HE.out.symm, blw_drewN HB.out _⟩
        · skip
          cases i2 : inB X.cool 0 3
          · skip
            have HE : Hid (R = false) := by show R = _; rw [HA.out, acScale, acDrop]; simp [hs, i1, i2]
            clear HA
            go_wp2_with (go_at_call 44; refine (l12InS _ _ _ _).mono ?_; rintro e w' ⟨rfl, rfl⟩)
            go_ret
            exact ⟨Pl.ret_bool HE.out.symm, blw_drewN HB.out _⟩
          · skip
            cases hd : X.drop
            · skip
              have HE : Hid (R = true) := by show R = _; rw [HA.out, acScale, acDrop]; simp [hs, i1, i2, hd]
              clear HA
              go_wp2_with (go_at_call 44; refine (l12InS _ _ _ _).mono ?_; rintro e w' ⟨rfl, rfl⟩)
              go_ret
              exact ⟨Pl.ret_bool HE.out.symm, blw_drewN HB.out _⟩
            · skip
              cases k3 : (X.create == 0)
              · skip
                have k3n : (X.create != 0) = true := by simp [bne, k3]
                have HE : Hid (R = false) := by show R = _; rw [HA.out, acScale, acDrop]; simp [hs, i1, i2, hd, k3]
                clear HA
                go_wp2_with (go_at_call 44; refine (l12InS _ _ _ _).mono ?_; rintro e w' ⟨rfl, rfl⟩)
                go_ret
                exact ⟨Pl.ret_bool HE.out.symm, blw_drewN HB.out _⟩
              · skip
                have k3n : (X.create != 0) = false := by simp [bne, k3]
                have HE : Hid (R = false) := by show R = _; rw [HA.out, acScale, acDrop]; simp [hs, i1, i2, hd, k3]
                clear HA
                go_wp2_with (go_at_call 44; refine (l12InS _ _ _ _).mono ?_; rintro e w' ⟨rfl, rfl⟩)
                go_ret
                exact ⟨Pl.ret_bool HE.out.symm, blw_drewN HB.out _⟩

end Go.Proofs.YtpamkibnahhphaaGreatDoor

namespace Go.Proofs.YtpamkibnahhphaaGreatDoor
open Go.RowKit Go.Deep

def endN (X : Ac) (i : Nat) : Int := (X.ends.getD i En.none).num
def endS (X : Ac) (i : Nat) : Int := (X.ends.getD i En.none).seen
def setEnd (l : List Cp) (c : Nat) (v : Int) : List Cp := l.set c { l.getD c Cp.none with ending := true, ver := v }
/-- The copies behind the first i ends. -/
def endTo (l : List Cp) (X : Ac) (v : Int) : Nat → List Cp
  | 0 => l
  | i + 1 => setEnd (endTo l X v i) (cpIx (endTo l X v i) X.svc (endN X i)).toNat v
def withC (K : SBk) (l : List Cp) : SBk := ⟨K.now, K.svcs, l, K.bts⟩
def fndAt (K : SBk) (X : Ac) (i : Nat) : Bool := decide (0 ≤ cpIx K.cps X.svc (endN X i))
def verAt (K : SBk) (X : Ac) (i : Nat) : Bool := (cpGet K.cps (cpIx K.cps X.svc (endN X i))).ver == endS X i
def mayAt (K : SBk) (X : Ac) (i : Nat) : Bool := mayEnd (withC K (endTo K.cps X (K.now + 1) i)) X.svc (endN X i)
def endCps (K : SBk) (X : Ac) : List Cp := endTo K.cps X (K.now + 1) X.ends.length
def acS (K : SBk) (X : Ac) : Sv := svGet K.svcs (svIx K.svcs X.svc)
/-- The service behind Scale. -/
def acS2 (K : SBk) (X : Ac) : Sv := if X.scale then { acS K X with want := X.want, cool := X.cool } else acS K X
def dropBad (K : SBk) (X : Ac) : Bool := X.drop && (!(acS K X).gone || decide (0 < (countOf K X.svc).live + (countOf K X.svc).ending))
def makeBad (K : SBk) (X : Ac) : Bool := decide (0 < X.create) && ((acS K X).gone || decide ((acS2 K X).want + (acS2 K X).over < (countOf (withC K (endCps K X)) X.svc).live + X.create))
def scaleBad (K : SBk) (X : Ac) : Bool := X.scale && ((acS K X).per == 0 || !inB X.want (acS K X).least (acS K X).most)
def roomBad (K : SBk) (X : Ac) : Bool := decide (200 < (K.cps.length : Int) + X.create) || decide (1000000 < (acS K X).next + X.create) || decide (1000000 ≤ K.now)
def acCode (K : SBk) (X : Ac) : Int :=
  if acOk X = false then 2 else if svIx K.svcs X.svc < 0 then 3 else if allTo (fndAt K X) X.ends.length = false then 3
  else if (acS K X).ver ≠ X.seen then 4 else if allTo (verAt K X) X.ends.length = false then 4
  else if allTo (mayAt K X) X.ends.length = false then 5 else if dropBad K X then 6 else if makeBad K X then 6 else if scaleBad K X then 6 else if roomBad K X then 7 else 0
def newCp (K : SBk) (X : Ac) (num : Int) : Cp := ⟨X.svc, num, K.now + 1, (acS K X).image, 1, false, ByteArray.empty⟩
def plcCp (l : List Cp) (c : Cp) : Nat := (l.takeWhile fun x => ahead x c).length
def insCp (l : List Cp) (c : Cp) : List Cp := l.take (plcCp l c) ++ [c] ++ l.drop (plcCp l c)
def madeTo (K : SBk) (X : Ac) : Nat → List Cp
  | 0 => endCps K X
  | i + 1 => insCp (madeTo K X i) (newCp K X ((acS K X).next + i))
def acS3 (K : SBk) (X : Ac) : Sv := { acS2 K X with next := (acS K X).next + X.create, ver := K.now + 1 }
def acSvs (K : SBk) (X : Ac) : List Sv := if X.drop then K.svcs.take (svIx K.svcs X.svc).toNat ++ K.svcs.drop ((svIx K.svcs X.svc).toNat + 1) else K.svcs.set (svIx K.svcs X.svc).toNat (acS3 K X)
/-- The book behind an act that is done. -/
def acBook (K : SBk) (X : Ac) : SBk := ⟨K.now + 1, acSvs K X, madeTo K X X.create.toNat, K.bts⟩
def applyK (K : SBk) (X : Ac) : SBk := if acCode K X = 0 then acBook K X else K

end Go.Proofs.YtpamkibnahhphaaGreatDoor

namespace Go.Proofs.YtpamkibnahhphaaGreatDoor
open Go.RowKit Go.Deep

/-- What is kept: the boxes of the book and the act, the block of the answer. -/
structure AI0 (w W : World) (v0 v1 v2 v3 u0 u1 u2 u3 u4 u5 u6 u7 : Value) : Prop where
  below : Below w.heap.size w W
  bx : Box4 W w.heap.size v0 v1 v2 v3
  ax : BoxA W (w.heap.size + 1) u0 u1 u2 u3 u4 u5 u6 u7
  own : OwnBlk W (w.heap.size + 2) 36 4
theorem AI0.later {w W W' : World} {v0 v1 v2 v3 u0 u1 u2 u3 u4 u5 u6 u7 : Value} (h : AI0 w W v0 v1 v2 v3 u0 u1 u2 u3 u4 u5 u6 u7) (hb : Below W.heap.size W W') : AI0 w W' v0 v1 v2 v3 u0 u1 u2 u3 u4 u5 u6 u7 :=
  ⟨blw_trans h.below hb, h.bx.later hb, h.ax.later hb, h.own.later hb⟩

theorem setEnd_len (l : List Cp) (c : Nat) (v : Int) : (setEnd l c v).length = l.length := by unfold setEnd; rw [List.length_set]
theorem endTo_len (l : List Cp) (X : Ac) (v : Int) : ∀ i, (endTo l X v i).length = l.length
  | 0 => rfl
  | i + 1 => by rw [endTo, setEnd_len, endTo_len l X v i]
/-- What ending leaves of a copy. -/
def likeCp (a b : Cp) : Prop := a.svc = b.svc ∧ a.num = b.num ∧ a.image = b.image ∧ a.state = b.state ∧ a.berth = b.berth
theorem setEnd_like (l : List Cp) (c : Nat) (v : Int) (j : Nat) : likeCp ((setEnd l c v).getD j Cp.none) (l.getD j Cp.none) := by
  unfold setEnd
  by_cases e : c = j
  · subst e
    by_cases h : c < l.length
    · have : (l.set c { l.getD c Cp.none with ending := true, ver := v }).getD c Cp.none = { l.getD c Cp.none with ending := true, ver := v } := by simp [h]
      rw [this]; exact ⟨rfl, rfl, rfl, rfl, rfl⟩
    · rw [List.set_eq_of_length_le (by omega)]; exact ⟨rfl, rfl, rfl, rfl, rfl⟩
  · have : (l.set c { l.getD c Cp.none with ending := true, ver := v }).getD j Cp.none = l.getD j Cp.none := by simp [e]
    rw [this]; exact ⟨rfl, rfl, rfl, rfl, rfl⟩
theorem likeCp.trans {a b c : Cp} (h : likeCp a b) (k : likeCp b c) : likeCp a c := ⟨h.1.trans k.1, h.2.1.trans k.2.1, h.2.2.1.trans k.2.2.1, h.2.2.2.1.trans k.2.2.2.1, h.2.2.2.2.trans k.2.2.2.2⟩
theorem endTo_like (l : List Cp) (X : Ac) (v : Int) (j : Nat) : ∀ i, likeCp ((endTo l X v i).getD j Cp.none) (l.getD j Cp.none)
  | 0 => ⟨rfl, rfl, rfl, rfl, rfl⟩
  | i + 1 => (setEnd_like _ _ _ _).trans (endTo_like l X v j i)
theorem endTo_sized {l : List Cp} (h : ∀ i, i < l.length → (l.getD i Cp.none).sized) (X : Ac) (v : Int) (k : Nat) : ∀ i, i < (endTo l X v k).length → ((endTo l X v k).getD i Cp.none).sized := by
  intro i hi
  rw [endTo_len] at hi
  have e := endTo_like l X v i k
  have := h i hi
  exact ⟨by rw [e.1]; exact this.1, by rw [e.2.2.2.2]; exact this.2⟩
theorem sane_end {K : SBk} (h : Sane K) (X : Ac) (v : Int) (k : Nat) : Sane (withC K (endTo K.cps X v k)) :=
  ⟨by show (endTo K.cps X v k).length ≤ _; rw [endTo_len]; exact h.cps, fun i hi => by
    have hi' : i < (endTo K.cps X v k).length := hi
    rw [endTo_len] at hi'
    show 0 ≤ svIx K.svcs ((endTo K.cps X v k).getD i Cp.none).svc
    rw [(endTo_like K.cps X v i k).1]; exact h.svc i hi', h.num⟩
theorem mayEnd_ix {K : SBk} {svc : ByteArray} {num : Int} (h : mayEnd K svc num = true) : 0 ≤ cpIx K.cps svc num := by
  unfold mayEnd at h
  split at h
  · cases h
  · omega

/-- The book that is turned: its variable and its own rows. -/
structure XI (lo px : Nat) (W : World) (now : Int) (sv : List Sv) (cp : List Cp) (bt : List Bt) (p0 p1 p2 : Option Addr) (n0 n1 n2 q0 q1 q2 : Nat) : Prop where
  bx : W.heap[px]? = some (.cells #[.int .i64 now, .slice p0 n0 q0, .slice p1 n1 q1, .slice p2 n2 q2] 36 (0, 0))
  o0 : W.ownsRow lo 86 13 (.slice p0 n0 q0) n0 (sv.flatMap SvC)
  o1 : W.ownsRow lo 90 7 (.slice p1 n1 q1) n1 (cp.flatMap CpC)
  o2 : W.ownsRow lo 88 2 (.slice p2 n2 q2) n2 (bt.flatMap BtC)
  l0 : sv.length = n0
  l1 : cp.length = n1
  l2 : bt.length = n2
  z0 : ∀ i, i < sv.length → (sv.getD i Sv.none).sized
  z1 : ∀ i, i < cp.length → (cp.getD i Cp.none).sized
  z2 : ∀ i, i < bt.length → (bt.getD i Bt.none).sized
  m0 : n0 ≤ 1048576
  m1 : n1 ≤ 1048576
  m2 : n2 ≤ 1048576
theorem lt_heap {W : World} {b : Nat} {o : Obj} (h : W.heap[b]? = some o) : b < W.heap.size := (Array.getElem?_eq_some_iff.1 h).1
theorem XI.later {lo px : Nat} {W W' : World} {now : Int} {sv : List Sv} {cp : List Cp} {bt : List Bt} {p0 p1 p2 : Option Addr} {n0 n1 n2 q0 q1 q2 : Nat} (h : XI lo px W now sv cp bt p0 p1 p2 n0 n1 n2 q0 q1 q2) (hb : Below W.heap.size W W') : XI lo px W' now sv cp bt p0 p1 p2 n0 n1 n2 q0 q1 q2 :=
  ⟨(hb.block px (lt_heap h.bx)).trans h.bx, owns_on h.o0 hb, owns_on h.o1 hb, owns_on h.o2 hb, h.l0, h.l1, h.l2, h.z0, h.z1, h.z2, h.m0, h.m1, h.m2⟩
theorem XI.v {lo px : Nat} {W : World} {now : Int} {sv : List Sv} {cp : List Cp} {bt : List Bt} {p0 p1 p2 : Option Addr} {n0 n1 n2 q0 q1 q2 : Nat} (h : XI lo px W now sv cp bt p0 p1 p2 n0 n1 n2 q0 q1 q2) : SBkV W p0 p1 p2 ⟨now, sv, cp, bt⟩ := by
  have m0 := h.m0
  have m1 := h.m1
  have m2 := h.m2
  obtain ⟨b0, o0, o1, o2, rfl, rfl, rfl, z0, z1, z2, _, _, _⟩ := h
  obtain ⟨a, c, e, h0⟩ := owns_Svs o0 z0 (by unfold maxLen; omega)
  injection e with e _ _
  subst e
  obtain ⟨a, c, e, h1⟩ := owns_Cps o1 z1 (by unfold maxLen; omega)
  injection e with e _ _
  subst e
  obtain ⟨a, c, e, h2⟩ := owns_Bts o2 z2 (by unfold maxLen; omega)
  injection e with e _ _
  subst e
  exact ⟨h0, h1, h2⟩
theorem XI.at_ {lo px : Nat} {W : World} {now : Int} {sv : List Sv} {cp : List Cp} {bt : List Bt} {p0 p1 p2 : Option Addr} {n0 n1 n2 q0 q1 q2 : Nat} (h : XI lo px W now sv cp bt p0 p1 p2 n0 n1 n2 q0 q1 q2) : Box4 W px (.int .i64 now) (.slice p0 n0 q0) (.slice p1 n1 q1) (.slice p2 n2 q2) := by
  have c : ∀ j, W.cell? ⟨px, j, none⟩ = (#[.int .i64 now, .slice p0 n0 q0, .slice p1 n1 q1, .slice p2 n2 q2] : Array Value)[j]? := fun j => by simp [World.cell?, h.bx]
  exact ⟨lt_heap h.bx, c 0, c 1, c 2, c 3⟩
/-- A row's block, where there is an element. -/
theorem owns_blk {W : World} {lo : Nat} {e : TypeId} {size n q : Nat} {p : Option Addr} {xs : List Value} (h : W.ownsRow lo e size (.slice p n q) n xs) (hn : 0 < n) : ∃ g cur, p = some ⟨g, 0, none⟩ ∧ lo ≤ g ∧ W.heap[g]? = some (.cells cur e (0, 0)) ∧ xs.length ≤ cur.size ∧ ∀ j u, xs[j]? = some u → W.cell? ⟨g, j, none⟩ = some u := by
  obtain ⟨hx, h⟩ := h
  rcases h with ⟨_, e⟩ | ⟨g, cap, cur, hv, hlo, hg, hc, _, hs, ht⟩
  · omega
  · cases hv
    have hle : n * size ≤ cur.size := by rw [hs]; exact Nat.mul_le_mul_right size hc
    refine ⟨g, cur, rfl, hlo, hg, by rw [hx]; exact hle, fun j u hj => ?_⟩
    rw [← ht, List.getElem?_take] at hj
    simp only [World.cell?, hg]
    split at hj
    · simpa using hj
    · cases hj
theorem owns_else {W : World} {lo g : Nat} {e e' : TypeId} {size : Nat} {v : Value} {n : Nat} {xs : List Value} {cur : Array Value} (h : W.ownsRow lo e size v n xs) (hg : W.heap[g]? = some (.cells cur e' (0, 0))) (hne : e ≠ e') (o : Nat) (x : Value) : (W.setCell ⟨g, o, none⟩ x).ownsRow lo e size v n xs := by
  refine ⟨h.1, h.2.imp id ?_⟩
  rintro ⟨g', cap, cur', h1, h2, h3, h4⟩
  refine ⟨g', cap, cur', h1, h2, (Below.heap_setCell W ⟨g, o, none⟩ x g' ?_).trans h3, h4⟩
  show g' ≠ g
  intro e2
  subst e2
  rw [hg] at h3
  injection h3 with h3
  injection h3 with _ h3 _
  exact hne h3.symm
theorem t_sc : (86 : TypeId) ≠ 90 := by decide
theorem t_bc : (88 : TypeId) ≠ 90 := by decide
theorem t_kc : (36 : TypeId) ≠ 90 := by decide
theorem heap_else {W : World} {b g : Nat} {e e' : TypeId} {cs cur : Array Value} (h : W.heap[b]? = some (.cells cs e (0, 0))) (hg : W.heap[g]? = some (.cells cur e' (0, 0))) (hne : e ≠ e') (o : Nat) (x : Value) : (W.setCell ⟨g, o, none⟩ x).heap[b]? = some (.cells cs e (0, 0)) := by
  refine (Below.heap_setCell W ⟨g, o, none⟩ x b ?_).trans h
  show b ≠ g
  intro e2
  subst e2
  rw [hg] at h
  injection h with h
  injection h with _ h _
  exact hne h.symm
/-- A cell of a copy of the book that is turned. -/
theorem XI.setCp {lo px : Nat} {W : World} {now : Int} {sv : List Sv} {cp : List Cp} {bt : List Bt} {p0 p2 : Option Addr} {n0 n1 n2 q0 q1 q2 : Nat} {g : Nat} (h : XI lo px W now sv cp bt p0 (some ⟨g, 0, none⟩) p2 n0 n1 n2 q0 q1 q2) {cur : Array Value} (hg : W.heap[g]? = some (.cells cur 90 (0, 0))) (c k : Nat) (hc : c < cp.length) (hk : k < 7) (x : Value) (m : Cp) (hm : CpC m = (CpC (cp.getD c Cp.none)).set k x) (hz : m.sized) :
    XI lo px (W.setCell ⟨g, c * 7 + k, none⟩ x) now sv (cp.set c m) bt p0 (some ⟨g, 0, none⟩) p2 n0 n1 n2 q0 q1 q2 := by
  refine ⟨heap_else h.bx hg t_kc _ _, owns_else h.o0 hg t_sc _ _, ?_, owns_else h.o2 hg t_bc _ _, h.l0, by rw [List.length_set]; exact h.l1, h.l2, h.z0, fun i hi => ?_, h.z2, h.m0, h.m1, h.m2⟩
  · rw [← flat_set Cp.none CpC 7 CpC_len k hk x cp c m hc hm]
    exact owns_set h.o1 _ _
  · rw [List.length_set] at hi
    by_cases e : c = i
    · subst e
      have : (cp.set c m).getD c Cp.none = m := by simp [hc]
      rw [this]; exact hz
    · have : (cp.set c m).getD i Cp.none = cp.getD i Cp.none := by simp [e]
      rw [this]; exact h.z1 i hi
theorem Box4.sc {W : World} {p g : Nat} {v0 v1 v2 v3 : Value} (h : Box4 W p v0 v1 v2 v3) (hne : p ≠ g) (o : Nat) (x : Value) : Box4 (W.setCell ⟨g, o, none⟩ x) p v0 v1 v2 v3 :=
  ⟨by rw [sc_size]; exact h.lt, (sc_ne _ _ _ _ _ _ (Or.inl hne)).trans h.x0, (sc_ne _ _ _ _ _ _ (Or.inl hne)).trans h.x1, (sc_ne _ _ _ _ _ _ (Or.inl hne)).trans h.x2, (sc_ne _ _ _ _ _ _ (Or.inl hne)).trans h.x3⟩
theorem BoxA.sc {W : World} {p g : Nat} {v0 v1 v2 v3 v4 v5 v6 v7 : Value} (h : BoxA W p v0 v1 v2 v3 v4 v5 v6 v7) (hne : p ≠ g) (o : Nat) (x : Value) : BoxA (W.setCell ⟨g, o, none⟩ x) p v0 v1 v2 v3 v4 v5 v6 v7 :=
  ⟨by rw [sc_size]; exact h.lt, (sc_ne _ _ _ _ _ _ (Or.inl hne)).trans h.x0, (sc_ne _ _ _ _ _ _ (Or.inl hne)).trans h.x1, (sc_ne _ _ _ _ _ _ (Or.inl hne)).trans h.x2, (sc_ne _ _ _ _ _ _ (Or.inl hne)).trans h.x3, (sc_ne _ _ _ _ _ _ (Or.inl hne)).trans h.x4, (sc_ne _ _ _ _ _ _ (Or.inl hne)).trans h.x5, (sc_ne _ _ _ _ _ _ (Or.inl hne)).trans h.x6, (sc_ne _ _ _ _ _ _ (Or.inl hne)).trans h.x7⟩
theorem AI0.sc {w W : World} {v0 v1 v2 v3 u0 u1 u2 u3 u4 u5 u6 u7 : Value} (h : AI0 w W v0 v1 v2 v3 u0 u1 u2 u3 u4 u5 u6 u7) {g : Nat} (hg : w.heap.size + 3 ≤ g) (o : Nat) (x : Value) : AI0 w (W.setCell ⟨g, o, none⟩ x) v0 v1 v2 v3 u0 u1 u2 u3 u4 u5 u6 u7 :=
  ⟨h.below.setCell (p := ⟨g, o, none⟩) (by show w.heap.size ≤ g; omega) x, h.bx.sc (by omega) o x, h.ax.sc (by omega) o x, h.own.sc_other (by omega) o x⟩

theorem next_of_ok {K : SBk} (h : sbOk K = true) : ∀ i, i < K.svcs.length → 1 ≤ (K.svcs.getD i Sv.none).next ∧ (K.svcs.getD i Sv.none).next ≤ 1000000 ∧ 0 ≤ (K.svcs.getD i Sv.none).over ∧ (K.svcs.getD i Sv.none).over ≤ 10 := by
  intro i hi
  simp only [sbOk, Bool.and_eq_true, decide_eq_true_eq] at h
  have q := (allTo_iff _ _).1 h.1.1.2 i hi
  simp only [svOk, inB, Bool.and_eq_true, decide_eq_true_eq] at q
  omega

theorem ac_bounds {X : Ac} (h : acOk X = true) : 0 ≤ X.create ∧ X.create ≤ 20 ∧ (X.scale = true → 0 ≤ X.want ∧ X.want ≤ 10) := by
  simp only [acOk, Bool.and_eq_true] at h
  have h1 := h.1.1.1
  simp only [inB, Bool.and_eq_true, decide_eq_true_eq] at h1
  refine ⟨h1.1, h1.2, fun e => ?_⟩
  have h2 := h.2.1
  unfold acScale at h2
  rw [e] at h2
  simp only [if_true, inB, Bool.and_eq_true, decide_eq_true_eq] at h2
  exact h2.1
theorem owns_lt {W : World} {lo g : Nat} {e : TypeId} {size n q : Nat} {xs : List Value} (h : W.ownsRow lo e size (.slice (some ⟨g, 0, none⟩) n q) n xs) : g < W.heap.size := by
  rcases h.2 with ⟨hv, _⟩ | ⟨g', cap, cur, hv, _, hg, _⟩
  · cases hv
  · cases hv
    exact lt_heap hg
theorem owns_apart {W : World} {lo p : Nat} {e : TypeId} {size n q : Nat} {a : Option Addr} {xs : List Value} (h : W.ownsRow lo e size (.slice a n q) n xs) (hne : ∀ g, a = some ⟨g, 0, none⟩ → g ≠ p) (o : Nat) (x : Value) : (W.setCell ⟨p, o, none⟩ x).ownsRow lo e size (.slice a n q) n xs := by
  refine ⟨h.1, h.2.imp id ?_⟩
  rintro ⟨g, cap, cur, h1, h2, h3, h4⟩
  refine ⟨g, cap, cur, h1, h2, (Below.heap_setCell W ⟨p, o, none⟩ x g ?_).trans h3, h4⟩
  exact hne g (by injection h1)
/-- A store beside the book that is turned. -/
theorem XI.scA {lo px : Nat} {W : World} {now : Int} {sv : List Sv} {cp : List Cp} {bt : List Bt} {p0 p1 p2 : Option Addr} {n0 n1 n2 q0 q1 q2 : Nat} (h : XI lo px W now sv cp bt p0 p1 p2 n0 n1 n2 q0 q1 q2) {p : Nat} (hp : p ≠ px) (h0 : ∀ g, p0 = some ⟨g, 0, none⟩ → g ≠ p) (h1 : ∀ g, p1 = some ⟨g, 0, none⟩ → g ≠ p) (h2 : ∀ g, p2 = some ⟨g, 0, none⟩ → g ≠ p) (o : Nat) (x : Value) :
    XI lo px (W.setCell ⟨p, o, none⟩ x) now sv cp bt p0 p1 p2 n0 n1 n2 q0 q1 q2 :=
  ⟨(Below.heap_setCell W ⟨p, o, none⟩ x px (by show px ≠ p; omega)).trans h.bx, owns_apart h.o0 h0 o x, owns_apart h.o1 h1 o x, owns_apart h.o2 h2 o x, h.l0, h.l1, h.l2, h.z0, h.z1, h.z2, h.m0, h.m1, h.m2⟩

noncomputable def sfst : Code → Code
  | .seq a _ => a
  | c => c
noncomputable def ssnd : Code → Code
  | .seq _ b => b
  | c => c
theorem sfst_seq (a b : Code) : sfst (.seq a b) = a := rfl
theorem ssnd_seq (a b : Code) : ssnd (.seq a b) = b := rfl
noncomputable def ap0 : Code := (Tryz.f20.body).getD .skip
noncomputable def ap1 : Code := ssnd ap0
noncomputable def ap2 : Code := ssnd ap1
noncomputable def ap3 : Code := ssnd ap2
noncomputable def ap4 : Code := ssnd ap3
noncomputable def ap5 : Code := ssnd ap4
noncomputable def ap6 : Code := ssnd ap5
noncomputable def ap7 : Code := ssnd ap6
noncomputable def ap8 : Code := ssnd ap7
noncomputable def ap9 : Code := ssnd ap8
noncomputable def ap10 : Code := ssnd ap9
noncomputable def ap11 : Code := ssnd ap10
noncomputable def ap12 : Code := ssnd ap11
noncomputable def ap13 : Code := ssnd ap12
noncomputable def ap14 : Code := ssnd ap13
noncomputable def ap15 : Code := ssnd ap14
noncomputable def ap16 : Code := ssnd ap15
noncomputable def ap17 : Code := ssnd ap16
noncomputable def ap18 : Code := ssnd ap17
noncomputable def ap19 : Code := ssnd ap18
noncomputable def ap20 : Code := ssnd ap19
noncomputable def ap21 : Code := ssnd ap20
noncomputable def ap22 : Code := ssnd ap21
noncomputable def ap23 : Code := ssnd ap22
theorem ap0_10 : ap0 = .seq (sfst ap0) (.seq (sfst ap1) (.seq (sfst ap2) (.seq (sfst ap3) (.seq (sfst ap4) (.seq (sfst ap5) (.seq (sfst ap6) (.seq (sfst ap7) (.seq (sfst ap8) (.seq (sfst ap9) ap10))))))))) := by kernel_rfl
theorem ap10_13 : ap10 = .seq (sfst ap10) (.seq (sfst ap11) (.seq (sfst ap12) ap13)) := by kernel_rfl
theorem ap13_14 : ap13 = .seq (sfst ap13) ap14 := by kernel_rfl
theorem ap14_15 : ap14 = .seq (sfst ap14) ap15 := by kernel_rfl
theorem ap15_16 : ap15 = .seq (sfst ap15) ap16 := by kernel_rfl
theorem ap16_17 : ap16 = .seq (sfst ap16) ap17 := by kernel_rfl
theorem ap17_18 : ap17 = .seq (sfst ap17) ap18 := by kernel_rfl
theorem ap18_20 : ap18 = .seq (sfst ap18) (.seq (sfst ap19) ap20) := by kernel_rfl
theorem ap20_21 : ap20 = .seq (sfst ap20) ap21 := by kernel_rfl
theorem ap21_r : ap21 = .seq (sfst ap21) (.seq (sfst ap22) .ret) := by kernel_rfl

/-- What is asked of the end. -/
def ApQ (K : SBk) (X : Ac) (w : World) : Exit → Act → World → Prop := bodyPost Tryz.prog Tryz.f20 fun e w' =>
  (∃ s0 s1 s2 d0 d1 d2, e = .returned (.tuple #[.agg #[.int .i64 (applyK K X).now, .slice s0 (applyK K X).svcs.length d0, .slice s1 (applyK K X).cps.length d1, .slice s2 (applyK K X).bts.length d2], .int .i64 (acCode K X)]) ∧ SBkV w' s0 s1 s2 (applyK K X)) ∧ Below w.heap.size w w'

end Go.Proofs.YtpamkibnahhphaaGreatDoor
