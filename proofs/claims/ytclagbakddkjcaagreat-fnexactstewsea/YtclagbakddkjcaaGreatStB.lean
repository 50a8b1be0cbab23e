/-
  Stewards: the places of a service, a copy, a berth, by the specification.
-/
import Derived.WalkSpells
import Derived.WalkLawsBesides
import Derived.Test.YtclagbakddkjcaaGreatStP
namespace Go.Proofs.YtclagbakddkjcaaGreat
open Go.RowKit Go.Deep

set_option maxHeartbeats 400000 in
theorem l12InS (n lo hi : Int) (w : World) :
    Calls Tryz.prog 18 #[.int .i64 n, .int .i64 lo, .int .i64 hi] w fun e w' => e = .returned (.bool (inB n lo hi)) ∧ w = w' := by
  unfold inB
  by_cases h : lo ≤ n
  · go_enter Tryz.func18, Tryz.ntmps18
    go_wp2
    go_ret
    exact ⟨Pl.ret_bool (by simp [h]), rfl⟩
  · go_enter Tryz.func18, Tryz.ntmps18
    go_wp2
    go_ret
    exact ⟨Pl.ret_bool (by rw [Bool.eq_iff_iff]; simp; omega), rfl⟩

set_option maxHeartbeats 1000000 in
theorem l12NameS (s : ByteArray) (w : World) (hs : s.size ≤ maxLen) :
    Calls Tryz.prog 41 #[.string s] w fun e w' => e = .returned (.bool (snmOk s)) ∧ w = w' := by
  unfold maxLen at hs
  by_cases hin : 1 ≤ s.size ∧ s.size ≤ 20
  · obtain ⟨h1, h2⟩ := hin
    have hb : inB (s.size : Int) 1 20 = true := by unfold inB; simp; omega
    go_enter Tryz.func41, Tryz.ntmps41
    go_wp2_with (go_at_call 18; refine (l12InS _ _ _ _).mono ?_; rintro e w' ⟨rfl, rfl⟩)
    go_loop [3] (fun i => ∃ k : Nat, k ≤ s.size ∧ i = .int .i64 k ∧ (s.data.toList.take k).all Pl.nameByte = true) (fun i => s.size - (intOf i).toNat)
    case atStart => exact ⟨0, Nat.zero_le _, rfl, rfl⟩
    case round =>
      obtain ⟨k, hk, rfl, hall⟩ := hrel
      have HA : Hid ((s.data.toList.take k).all Pl.nameByte = true) := hall
      clear hall
      by_cases hlt : k < s.size
      · by_cases hn : Pl.nameByte s[k] = true
        · have HS : Hid ((s.data.toList.take (k + 1)).all Pl.nameByte = true) := by show _ = true; rw [Pl.all_snoc _ _ _ hlt, HA.out, hn]; rfl
          have hq : (97 ≤ s[k].toNat ∧ s[k].toNat ≤ 122) ∨ (48 ≤ s[k].toNat ∧ s[k].toNat ≤ 57) ∨ s[k].toNat = 45 := by
            simp [Pl.nameByte] at hn; omega
          clear hn
          by_cases a1 : (97 : Int) ≤ (s[k].toNat : Int) <;> by_cases a2 : (s[k].toNat : Int) ≤ 122 <;> by_cases a3 : (48 : Int) ≤ (s[k].toNat : Int) <;> by_cases a4 : (s[k].toNat : Int) ≤ 57 <;> by_cases a5 : (s[k].toNat : Int) = 45
          all_goals first
            | (exfalso; omega)
            | (clear hq
               (first | (have a6 : ((s[k].toNat : Int) == 45) = false := by simpa using a5) | (have a6 : ((s[k].toNat : Int) == 45) = true := by simpa using a5))
               go_wp2
               go_round
               case rel => exact ⟨k + 1, by omega, by go_num, HS.out⟩
               case measure => simp [intOf]; omega)
        · have hn' : Pl.nameByte s[k] = false := by simpa using hn
          have HF : Hid (snmOk s = false) := by show snmOk s = false; simp [snmOk, Pl.nameBytes, Pl.all_false _ s k hlt hn']
          have hq : ¬ ((97 ≤ s[k].toNat ∧ s[k].toNat ≤ 122) ∨ (48 ≤ s[k].toNat ∧ s[k].toNat ≤ 57) ∨ s[k].toNat = 45) := by
            intro h; simp [Pl.nameByte] at hn; omega
          clear hn hn'
          by_cases a1 : (97 : Int) ≤ (s[k].toNat : Int) <;> by_cases a2 : (s[k].toNat : Int) ≤ 122 <;> by_cases a3 : (48 : Int) ≤ (s[k].toNat : Int) <;> by_cases a4 : (s[k].toNat : Int) ≤ 57 <;> by_cases a5 : (s[k].toNat : Int) = 45
          all_goals first
            | (exfalso; omega)
            | (clear hq
               (first | (have a6 : ((s[k].toNat : Int) == 45) = false := by simpa using a5) | (have a6 : ((s[k].toNat : Int) == 45) = true := by simpa using a5))
               go_wp2
               go_ret
               exact ⟨Pl.ret_bool HF.out.symm, rfl⟩)
      · have HF : Hid (snmOk s = true) := by
          show snmOk s = true
          have := Pl.all_whole Pl.nameByte s k (by omega)
          simp only [snmOk, Pl.nameBytes, ← this, HA.out]
          simp; omega
        go_wp2
        go_ret
        exact ⟨Pl.ret_bool HF.out.symm, rfl⟩
  · have HF : Hid (snmOk s = false) := by
      show snmOk s = false
      have : (decide (1 ≤ s.size) && decide (s.size ≤ 20)) = false := by
        rw [Bool.eq_false_iff]; simp; omega
      simp [snmOk, this]
    have hb : inB (s.size : Int) 1 20 = false := by
      unfold inB; rw [Bool.eq_false_iff]; simp; omega
    clear hin
    go_enter Tryz.func41, Tryz.ntmps41
    go_wp2_with (go_at_call 18; refine (l12InS _ _ _ _).mono ?_; rintro e w' ⟨rfl, rfl⟩)
    go_ret
    exact ⟨Pl.ret_bool HF.out.symm, rfl⟩

set_option maxHeartbeats 4000000 in
theorem l12ServiceS (s : Sv) (now : Int) (w : World) (hs : s.sized) :
    Calls Tryz.prog 40 #[.agg #[.string s.nm, .int .i64 s.ver, .bool s.gone, .int .i64 s.image, .int .i64 s.want, .int .i64 s.down, .int .i64 s.over, .int .i64 s.next, .int .i64 s.per, .int .i64 s.least, .int .i64 s.most, .int .i64 s.load, .int .i64 s.cool], .int .i64 now] w fun e w' => e = .returned (.bool (svOk s now)) ∧ Below w.heap.size w w' := by
  have HS : Hid (s.nm.size ≤ maxLen) := hs
  have hdo : inB s.down 0 10 = true → inB s.over 0 10 = true → 0 ≤ s.down ∧ s.down ≤ 10 ∧ 0 ≤ s.over ∧ s.over ≤ 10 := by
    unfold inB; simp; omega
  obtain ⟨R, hR⟩ : ∃ R, R = svOk s now := ⟨_, rfl⟩
  have HR : Hid (R = svOk s now) := hR
  rw [← hR]
  clear hR hs
  cases h0 : snmOk s.nm
  · have HF : Hid (R = false) := by show R = false; rw [HR.out]; simp [svOk, h0]
    clear HR hdo
    go_enter Tryz.func40, Tryz.ntmps40
    go_wp2_with (first | (go_at_call 18; refine (l12InS _ _ _ _).mono ?_; rintro e w' ⟨rfl, rfl⟩) | (go_at_call 41; refine (l12NameS _ _ HS.out).mono ?_; rintro e w' ⟨rfl, rfl⟩))
    go_ret
    exact ⟨Pl.ret_bool HF.out.symm, blw_alloc (Below.refl _ _) _⟩
  cases h1 : inB s.ver 1 now
  · have HF : Hid (R = false) := by show R = false; rw [HR.out]; simp [svOk, h0, h1]
    clear HR hdo
    go_enter Tryz.func40, Tryz.ntmps40
    go_wp2_with (first | (go_at_call 18; refine (l12InS _ _ _ _).mono ?_; rintro e w' ⟨rfl, rfl⟩) | (go_at_call 41; refine (l12NameS _ _ HS.out).mono ?_; rintro e w' ⟨rfl, rfl⟩))
    go_ret
    exact ⟨Pl.ret_bool HF.out.symm, blw_alloc (Below.refl _ _) _⟩
  cases h2 : inB s.image 1 1000000
  · have HF : Hid (R = false) := by show R = false; rw [HR.out]; simp [svOk, h0, h1, h2]
    clear HR hdo
    go_enter Tryz.func40, Tryz.ntmps40
    go_wp2_with (first | (go_at_call 18; refine (l12InS _ _ _ _).mono ?_; rintro e w' ⟨rfl, rfl⟩) | (go_at_call 41; refine (l12NameS _ _ HS.out).mono ?_; rintro e w' ⟨rfl, rfl⟩))
    go_ret
    exact ⟨Pl.ret_bool HF.out.symm, blw_alloc (Below.refl _ _) _⟩
  cases h3 : inB s.next 1 1000000
  · have HF : Hid (R = false) := by show R = false; rw [HR.out]; simp [svOk, h0, h1, h2, h3]
    clear HR hdo
    go_enter Tryz.func40, Tryz.ntmps40
    go_wp2_with (first | (go_at_call 18; refine (l12InS _ _ _ _).mono ?_; rintro e w' ⟨rfl, rfl⟩) | (go_at_call 41; refine (l12NameS _ _ HS.out).mono ?_; rintro e w' ⟨rfl, rfl⟩))
    go_ret
    exact ⟨Pl.ret_bool HF.out.symm, blw_alloc (Below.refl _ _) _⟩
  cases h4 : inB s.want 0 10
  · have HF : Hid (R = false) := by show R = false; rw [HR.out]; simp [svOk, h0, h1, h2, h3, h4]
    clear HR hdo
    go_enter Tryz.func40, Tryz.ntmps40
    go_wp2_with (first | (go_at_call 18; refine (l12InS _ _ _ _).mono ?_; rintro e w' ⟨rfl, rfl⟩) | (go_at_call 41; refine (l12NameS _ _ HS.out).mono ?_; rintro e w' ⟨rfl, rfl⟩))
    go_ret
    exact ⟨Pl.ret_bool HF.out.symm, blw_alloc (Below.refl _ _) _⟩
  cases h5 : inB s.down 0 10
  · have HF : Hid (R = false) := by show R = false; rw [HR.out]; simp [svOk, h0, h1, h2, h3, h4, h5]
    clear HR hdo
    go_enter Tryz.func40, Tryz.ntmps40
    go_wp2_with (first | (go_at_call 18; refine (l12InS _ _ _ _).mono ?_; rintro e w' ⟨rfl, rfl⟩) | (go_at_call 41; refine (l12NameS _ _ HS.out).mono ?_; rintro e w' ⟨rfl, rfl⟩))
    go_ret
    exact ⟨Pl.ret_bool HF.out.symm, blw_alloc (Below.refl _ _) _⟩
  cases h6 : inB s.over 0 10
  · have HF : Hid (R = false) := by show R = false; rw [HR.out]; simp [svOk, h0, h1, h2, h3, h4, h5, h6]
    clear HR hdo
    go_enter Tryz.func40, Tryz.ntmps40
    go_wp2_with (first | (go_at_call 18; refine (l12InS _ _ _ _).mono ?_; rintro e w' ⟨rfl, rfl⟩) | (go_at_call 41; refine (l12NameS _ _ HS.out).mono ?_; rintro e w' ⟨rfl, rfl⟩))
    go_ret
    exact ⟨Pl.ret_bool HF.out.symm, blw_alloc (Below.refl _ _) _⟩
  have hq := hdo h5 h6
  clear hdo
  by_cases h7 : s.down + s.over = 0
  · have HF : Hid (R = false) := by show R = false; rw [HR.out]; simp [svOk, h0, h1, h2, h3, h4, h5, h6, h7]
    clear HR
    go_enter Tryz.func40, Tryz.ntmps40
    go_wp2_with (first | (go_at_call 18; refine (l12InS _ _ _ _).mono ?_; rintro e w' ⟨rfl, rfl⟩) | (go_at_call 41; refine (l12NameS _ _ HS.out).mono ?_; rintro e w' ⟨rfl, rfl⟩))
    go_ret
    exact ⟨Pl.ret_bool HF.out.symm, blw_alloc (Below.refl _ _) _⟩
  by_cases h8 : s.per = 0
  · rcases (Decidable.em (s.least = 0)).symm with g0 | g0
    · have HF : Hid (R = false) := by show R = false; rw [HR.out]; simp [svOk, h0, h1, h2, h3, h4, h5, h6, h7, h8, g0]
      clear HR
      go_enter Tryz.func40, Tryz.ntmps40
      go_wp2_with (first | (go_at_call 18; refine (l12InS _ _ _ _).mono ?_; rintro e w' ⟨rfl, rfl⟩) | (go_at_call 41; refine (l12NameS _ _ HS.out).mono ?_; rintro e w' ⟨rfl, rfl⟩))
      go_ret
      exact ⟨Pl.ret_bool (by first | exact HF.out.symm | (rw [HF.out]; simpa using g0)), blw_alloc (Below.refl _ _) _⟩
    rcases (Decidable.em (s.most = 0)).symm with g1 | g1
    · have HF : Hid (R = false) := by show R = false; rw [HR.out]; simp [svOk, h0, h1, h2, h3, h4, h5, h6, h7, h8, g0, g1]
      clear HR
      go_enter Tryz.func40, Tryz.ntmps40
      go_wp2_with (first | (go_at_call 18; refine (l12InS _ _ _ _).mono ?_; rintro e w' ⟨rfl, rfl⟩) | (go_at_call 41; refine (l12NameS _ _ HS.out).mono ?_; rintro e w' ⟨rfl, rfl⟩))
      go_ret
      exact ⟨Pl.ret_bool (by first | exact HF.out.symm | (rw [HF.out]; simpa using g1)), blw_alloc (Below.refl _ _) _⟩
    rcases (Decidable.em (s.load = 0)).symm with g2 | g2
    · have HF : Hid (R = false) := by show R = false; rw [HR.out]; simp [svOk, h0, h1, h2, h3, h4, h5, h6, h7, h8, g0, g1, g2]
      clear HR
      go_enter Tryz.func40, Tryz.ntmps40
      go_wp2_with (first | (go_at_call 18; refine (l12InS _ _ _ _).mono ?_; rintro e w' ⟨rfl, rfl⟩) | (go_at_call 41; refine (l12NameS _ _ HS.out).mono ?_; rintro e w' ⟨rfl, rfl⟩))
      go_ret
      exact ⟨Pl.ret_bool (by first | exact HF.out.symm | (rw [HF.out]; simpa using g2)), blw_alloc (Below.refl _ _) _⟩
    rcases (Decidable.em (s.cool = 0)).symm with g3 | g3
    · have HF : Hid (R = false) := by show R = false; rw [HR.out]; simp [svOk, h0, h1, h2, h3, h4, h5, h6, h7, h8, g0, g1, g2, g3]
      clear HR
      go_enter Tryz.func40, Tryz.ntmps40
      go_wp2_with (first | (go_at_call 18; refine (l12InS _ _ _ _).mono ?_; rintro e w' ⟨rfl, rfl⟩) | (go_at_call 41; refine (l12NameS _ _ HS.out).mono ?_; rintro e w' ⟨rfl, rfl⟩))
      go_ret
      exact ⟨Pl.ret_bool (by first | exact HF.out.symm | (rw [HF.out]; simpa using g3)), blw_alloc (Below.refl _ _) _⟩
    have HF : Hid (R = true) := by show R = true; rw [HR.out]; simp [svOk, h0, h1, h2, h3, h4, h5, h6, h7, h8, g0, g1, g2, g3]
    clear HR
    go_enter Tryz.func40, Tryz.ntmps40
    go_wp2_with (first | (go_at_call 18; refine (l12InS _ _ _ _).mono ?_; rintro e w' ⟨rfl, rfl⟩) | (go_at_call 41; refine (l12NameS _ _ HS.out).mono ?_; rintro e w' ⟨rfl, rfl⟩))
    go_ret
    exact ⟨Pl.ret_bool HF.out.symm, blw_alloc (Below.refl _ _) _⟩
  · cases g0 : inB s.per 0 1000000
    · have HF : Hid (R = false) := by show R = false; rw [HR.out]; simp [svOk, h0, h1, h2, h3, h4, h5, h6, h7, h8, g0]
      clear HR
      go_enter Tryz.func40, Tryz.ntmps40
      go_wp2_with (first | (go_at_call 18; refine (l12InS _ _ _ _).mono ?_; rintro e w' ⟨rfl, rfl⟩) | (go_at_call 41; refine (l12NameS _ _ HS.out).mono ?_; rintro e w' ⟨rfl, rfl⟩))
      go_ret
      exact ⟨Pl.ret_bool HF.out.symm, blw_alloc (Below.refl _ _) _⟩
    cases g1 : inB s.load 0 1000000
    · have HF : Hid (R = false) := by show R = false; rw [HR.out]; simp [svOk, h0, h1, h2, h3, h4, h5, h6, h7, h8, g0, g1]
      clear HR
      go_enter Tryz.func40, Tryz.ntmps40
      go_wp2_with (first | (go_at_call 18; refine (l12InS _ _ _ _).mono ?_; rintro e w' ⟨rfl, rfl⟩) | (go_at_call 41; refine (l12NameS _ _ HS.out).mono ?_; rintro e w' ⟨rfl, rfl⟩))
      go_ret
      exact ⟨Pl.ret_bool HF.out.symm, blw_alloc (Below.refl _ _) _⟩
    cases g2 : inB s.least 0 10
    · have HF : Hid (R = false) := by show R = false; rw [HR.out]; simp [svOk, h0, h1, h2, h3, h4, h5, h6, h7, h8, g0, g1, g2]
      clear HR
      go_enter Tryz.func40, Tryz.ntmps40
      go_wp2_with (first | (go_at_call 18; refine (l12InS _ _ _ _).mono ?_; rintro e w' ⟨rfl, rfl⟩) | (go_at_call 41; refine (l12NameS _ _ HS.out).mono ?_; rintro e w' ⟨rfl, rfl⟩))
      go_ret
      exact ⟨Pl.ret_bool HF.out.symm, blw_alloc (Below.refl _ _) _⟩
    cases g3 : inB s.most s.least 10
    · have HF : Hid (R = false) := by show R = false; rw [HR.out]; simp [svOk, h0, h1, h2, h3, h4, h5, h6, h7, h8, g0, g1, g2, g3]
      clear HR
      go_enter Tryz.func40, Tryz.ntmps40
      go_wp2_with (first | (go_at_call 18; refine (l12InS _ _ _ _).mono ?_; rintro e w' ⟨rfl, rfl⟩) | (go_at_call 41; refine (l12NameS _ _ HS.out).mono ?_; rintro e w' ⟨rfl, rfl⟩))
      go_ret
      exact ⟨Pl.ret_bool HF.out.symm, blw_alloc (Below.refl _ _) _⟩
    cases g4 : inB s.cool 0 3
    · have HF : Hid (R = false) := by show R = false; rw [HR.out]; simp [svOk, h0, h1, h2, h3, h4, h5, h6, h7, h8, g0, g1, g2, g3, g4]
      clear HR
      go_enter Tryz.func40, Tryz.ntmps40
      go_wp2_with (first | (go_at_call 18; refine (l12InS _ _ _ _).mono ?_; rintro e w' ⟨rfl, rfl⟩) | (go_at_call 41; refine (l12NameS _ _ HS.out).mono ?_; rintro e w' ⟨rfl, rfl⟩))
      go_ret
      exact ⟨Pl.ret_bool HF.out.symm, blw_alloc (Below.refl _ _) _⟩
    have HF : Hid (R = true) := by show R = true; rw [HR.out]; simp [svOk, h0, h1, h2, h3, h4, h5, h6, h7, h8, g0, g1, g2, g3, g4]
    clear HR
    go_enter Tryz.func40, Tryz.ntmps40
    go_wp2_with (first | (go_at_call 18; refine (l12InS _ _ _ _).mono ?_; rintro e w' ⟨rfl, rfl⟩) | (go_at_call 41; refine (l12NameS _ _ HS.out).mono ?_; rintro e w' ⟨rfl, rfl⟩))
    go_ret
    exact ⟨Pl.ret_bool HF.out.symm, blw_alloc (Below.refl _ _) _⟩

set_option maxHeartbeats 4000000 in
theorem l12AheadS (a b : Cp) (w : World) :
    Calls Tryz.prog 43 #[.agg #[.string a.svc, .int .i64 a.num, .int .i64 a.ver, .int .i64 a.image, .int .i64 a.state, .bool a.ending, .string a.berth], .agg #[.string b.svc, .int .i64 b.num, .int .i64 b.ver, .int .i64 b.image, .int .i64 b.state, .bool b.ending, .string b.berth]] w fun e w' => e = .returned (.bool (ahead a b)) ∧ Below w.heap.size w w' := by
  obtain ⟨R, hR⟩ : ∃ R, R = ahead a b := ⟨_, rfl⟩
  have HR : Hid (R = (Op.bytesLess a.svc.toList b.svc.toList || ((a.svc.toList == b.svc.toList) && decide (a.num < b.num)))) := hR
  rw [← hR]
  clear hR
  have HD : Hid (∀ x y : Bool, Op.bytesLess a.svc.toList b.svc.toList = x → (a.svc.toList == b.svc.toList) = y → (a.num < b.num → R = (x || y)) ∧ (¬ a.num < b.num → R = x)) := by
    intro x y hx hy
    rw [HR.out, hx, hy]
    exact ⟨fun h => by simp [h], fun h => by simp [h]⟩
  clear HR
  cases h0 : Op.bytesLess a.svc.toList b.svc.toList
  all_goals cases h1 : (a.svc.toList == b.svc.toList)
  all_goals by_cases h2 : a.num < b.num
  all_goals
    have HF := HD.out _ _ h0 h1
    first | have HG := hid (HF.1 h2) | have HG := hid (HF.2 h2)
    clear HF HD
    go_enter Tryz.func43, Tryz.ntmps43
    go_wp2
    go_ret
    exact ⟨Pl.ret_bool HG.out.symm, blw_alloc (blw_alloc (Below.refl _ _) _) _⟩

end Go.Proofs.YtclagbakddkjcaaGreat

namespace Go.Proofs.YtclagbakddkjcaaGreat
open Go.RowKit Go.Deep

theorem Box4.at {w : World} {p : Nat} {v0 v1 v2 v3 : Value} (h : Box4 w p v0 v1 v2 v3) : p < w.heap.size ∧ w.cell? ⟨p, 0, none⟩ = some v0 ∧ w.cell? ⟨p, 1, none⟩ = some v1 ∧ w.cell? ⟨p, 2, none⟩ = some v2 ∧ w.cell? ⟨p, 3, none⟩ = some v3 := ⟨h.lt, h.x0, h.x1, h.x2, h.x3⟩

structure Box5 (W : World) (p : Nat) (v0 v1 v2 v3 v4 : Value) : Prop where
  lt : p < W.heap.size
  x0 : W.cell? ⟨p, 0, none⟩ = some v0
  x1 : W.cell? ⟨p, 1, none⟩ = some v1
  x2 : W.cell? ⟨p, 2, none⟩ = some v2
  x3 : W.cell? ⟨p, 3, none⟩ = some v3
  x4 : W.cell? ⟨p, 4, none⟩ = some v4

theorem Box5.later {W W' : World} {p : Nat} {v0 v1 v2 v3 v4 : Value} (h : Box5 W p v0 v1 v2 v3 v4) (hb : Below W.heap.size W W') : Box5 W' p v0 v1 v2 v3 v4 := by
  have c : ∀ j, W'.cell? ⟨p, j, none⟩ = W.cell? ⟨p, j, none⟩ := fun j => hb.cell (p := ⟨p, j, none⟩) h.lt
  exact ⟨Nat.lt_of_lt_of_le h.lt hb.size, (c 0).trans h.x0, (c 1).trans h.x1, (c 2).trans h.x2, (c 3).trans h.x3, (c 4).trans h.x4⟩
theorem Box5.new' (W : World) (p : Nat) (v0 v1 v2 v3 v4 : Value) (t : TypeId) (hp : p = W.heap.size) : Box5 (W.alloc (.cells #[v0, v1, v2, v3, v4] t)) p v0 v1 v2 v3 v4 := by
  subst hp
  have c : ∀ j, (W.alloc (.cells #[v0, v1, v2, v3, v4] t)).cell? ⟨W.heap.size, j, none⟩ = (#[v0, v1, v2, v3, v4])[j]? := fun j => World.cell?_alloc_at _ _ _ _ rfl
  exact ⟨by simp, c 0, c 1, c 2, c 3, c 4⟩
theorem Box5.past {W : World} {p : Nat} {v0 v1 v2 v3 v4 : Value} (h : Box5 W p v0 v1 v2 v3 v4) (o : Obj) : Box5 (W.alloc o) p v0 v1 v2 v3 v4 := h.later (blw_alloc (Below.refl _ _) o)

structure Box7 (W : World) (p : Nat) (v0 v1 v2 v3 v4 v5 v6 : Value) : Prop where
  lt : p < W.heap.size
  x0 : W.cell? ⟨p, 0, none⟩ = some v0
  x1 : W.cell? ⟨p, 1, none⟩ = some v1
  x2 : W.cell? ⟨p, 2, none⟩ = some v2
  x3 : W.cell? ⟨p, 3, none⟩ = some v3
  x4 : W.cell? ⟨p, 4, none⟩ = some v4
  x5 : W.cell? ⟨p, 5, none⟩ = some v5
  x6 : W.cell? ⟨p, 6, none⟩ = some v6

theorem Box7.later {W W' : World} {p : Nat} {v0 v1 v2 v3 v4 v5 v6 : Value} (h : Box7 W p v0 v1 v2 v3 v4 v5 v6) (hb : Below W.heap.size W W') : Box7 W' p v0 v1 v2 v3 v4 v5 v6 := by
  have c : ∀ j, W'.cell? ⟨p, j, none⟩ = W.cell? ⟨p, j, none⟩ := fun j => hb.cell (p := ⟨p, j, none⟩) h.lt
  exact ⟨Nat.lt_of_lt_of_le h.lt hb.size, (c 0).trans h.x0, (c 1).trans h.x1, (c 2).trans h.x2, (c 3).trans h.x3, (c 4).trans h.x4, (c 5).trans h.x5, (c 6).trans h.x6⟩
theorem Box7.new' (W : World) (p : Nat) (v0 v1 v2 v3 v4 v5 v6 : Value) (t : TypeId) (hp : p = W.heap.size) : Box7 (W.alloc (.cells #[v0, v1, v2, v3, v4, v5, v6] t)) p v0 v1 v2 v3 v4 v5 v6 := by
  subst hp
  have c : ∀ j, (W.alloc (.cells #[v0, v1, v2, v3, v4, v5, v6] t)).cell? ⟨W.heap.size, j, none⟩ = (#[v0, v1, v2, v3, v4, v5, v6])[j]? := fun j => World.cell?_alloc_at _ _ _ _ rfl
  exact ⟨by simp, c 0, c 1, c 2, c 3, c 4, c 5, c 6⟩
theorem Box7.past {W : World} {p : Nat} {v0 v1 v2 v3 v4 v5 v6 : Value} (h : Box7 W p v0 v1 v2 v3 v4 v5 v6) (o : Obj) : Box7 (W.alloc o) p v0 v1 v2 v3 v4 v5 v6 := h.later (blw_alloc (Below.refl _ _) o)

structure Box13 (W : World) (p : Nat) (v0 v1 v2 v3 v4 v5 v6 v7 v8 v9 v10 v11 v12 : Value) : Prop where
  lt : p < W.heap.size
  x0 : W.cell? ⟨p, 0, none⟩ = some v0
  x1 : W.cell? ⟨p, 1, none⟩ = some v1
  x2 : W.cell? ⟨p, 2, none⟩ = some v2
  x3 : W.cell? ⟨p, 3, none⟩ = some v3
  x4 : W.cell? ⟨p, 4, none⟩ = some v4
  x5 : W.cell? ⟨p, 5, none⟩ = some v5
  x6 : W.cell? ⟨p, 6, none⟩ = some v6
  x7 : W.cell? ⟨p, 7, none⟩ = some v7
  x8 : W.cell? ⟨p, 8, none⟩ = some v8
  x9 : W.cell? ⟨p, 9, none⟩ = some v9
  x10 : W.cell? ⟨p, 10, none⟩ = some v10
  x11 : W.cell? ⟨p, 11, none⟩ = some v11
  x12 : W.cell? ⟨p, 12, none⟩ = some v12

theorem Box13.later {W W' : World} {p : Nat} {v0 v1 v2 v3 v4 v5 v6 v7 v8 v9 v10 v11 v12 : Value} (h : Box13 W p v0 v1 v2 v3 v4 v5 v6 v7 v8 v9 v10 v11 v12) (hb : Below W.heap.size W W') : Box13 W' p v0 v1 v2 v3 v4 v5 v6 v7 v8 v9 v10 v11 v12 := by
  have c : ∀ j, W'.cell? ⟨p, j, none⟩ = W.cell? ⟨p, j, none⟩ := fun j => hb.cell (p := ⟨p, j, none⟩) h.lt
  exact ⟨Nat.lt_of_lt_of_le h.lt hb.size, (c 0).trans h.x0, (c 1).trans h.x1, (c 2).trans h.x2, (c 3).trans h.x3, (c 4).trans h.x4, (c 5).trans h.x5, (c 6).trans h.x6, (c 7).trans h.x7, (c 8).trans h.x8, (c 9).trans h.x9, (c 10).trans h.x10, (c 11).trans h.x11, (c 12).trans h.x12⟩
theorem Box13.new' (W : World) (p : Nat) (v0 v1 v2 v3 v4 v5 v6 v7 v8 v9 v10 v11 v12 : Value) (t : TypeId) (hp : p = W.heap.size) : Box13 (W.alloc (.cells #[v0, v1, v2, v3, v4, v5, v6, v7, v8, v9, v10, v11, v12] t)) p v0 v1 v2 v3 v4 v5 v6 v7 v8 v9 v10 v11 v12 := by
  subst hp
  have c : ∀ j, (W.alloc (.cells #[v0, v1, v2, v3, v4, v5, v6, v7, v8, v9, v10, v11, v12] t)).cell? ⟨W.heap.size, j, none⟩ = (#[v0, v1, v2, v3, v4, v5, v6, v7, v8, v9, v10, v11, v12])[j]? := fun j => World.cell?_alloc_at _ _ _ _ rfl
  exact ⟨by simp, c 0, c 1, c 2, c 3, c 4, c 5, c 6, c 7, c 8, c 9, c 10, c 11, c 12⟩
theorem Box13.past {W : World} {p : Nat} {v0 v1 v2 v3 v4 v5 v6 v7 v8 v9 v10 v11 v12 : Value} (h : Box13 W p v0 v1 v2 v3 v4 v5 v6 v7 v8 v9 v10 v11 v12) (o : Obj) : Box13 (W.alloc o) p v0 v1 v2 v3 v4 v5 v6 v7 v8 v9 v10 v11 v12 := h.later (blw_alloc (Below.refl _ _) o)

set_option maxHeartbeats 4000000 in
theorem l12ServiceIx (K : SBk) (a0 a1 a2 : Option Addr) (c0 c1 c2 : Nat) (nm : ByteArray) (w : World) (h : SBkV w a0 a1 a2 K) :
    Calls Tryz.prog 49 #[.agg #[.int .i64 K.now, .slice a0 K.svcs.length c0, .slice a1 K.cps.length c1, .slice a2 K.bts.length c2], .string nm] w fun e w' => e = .returned (.int .i64 (svIx K.svcs nm)) ∧ Below w.heap.size w w' := by
  have hl := h.s.len
  unfold maxLen at hl
  have HH : Hid (SBkV w a0 a1 a2 K) := h
  clear h
  obtain ⟨R, hR⟩ : ∃ R, R = svIx K.svcs nm := ⟨_, rfl⟩
  have HR : Hid (R = firstTo (fun i => same (K.svcs.getD i Sv.none).nm nm) K.svcs.length) := hR
  rw [← hR]
  clear hR
  obtain ⟨wa, hwa⟩ : ∃ wa, wa = w.alloc (.cells #[.int .i64 K.now, .slice a0 K.svcs.length c0, .slice a1 K.cps.length c1, .slice a2 K.bts.length c2] 37) := ⟨_, rfl⟩
  have HB : Hid (Below w.heap.size w wa) := by show Below _ _ _; rw [hwa]; exact blw_alloc (Below.refl _ _) _
  have HX : Hid (Box4 wa w.heap.size (.int .i64 K.now) (.slice a0 K.svcs.length c0) (.slice a1 K.cps.length c1) (.slice a2 K.bts.length c2)) := by show Box4 _ _ _ _ _ _; rw [hwa]; exact Box4.new' w _ _ _ _ _ _ rfl
  go_enter Tryz.func49, Tryz.ntmps49
  go_upto_region 1 with fail
  rw [← hwa]
  clear hwa
  go_wp2
  go_loopw [5] (fun i wr => ∃ k : Nat, k ≤ K.svcs.length ∧ i = .int .i64 k ∧ Below wa.heap.size wa wr ∧ ∀ j, j < k → (same (K.svcs.getD j Sv.none).nm nm) = false) (fun i _ => K.svcs.length - (intOf i).toNat)
  case atStart => exact ⟨0, Nat.zero_le _, rfl, Below.refl _ _, fun j hj => absurd hj (Nat.not_lt_zero j)⟩
  case round =>
    obtain ⟨k, hk, rfl, hW, hall⟩ := hrel
    have HA := hid hall
    have HW := hid hW
    obtain ⟨yz, y0, y1, y2, y3⟩ := HX.out.later hW
    clear hall hW
    by_cases hlt : k < K.svcs.length
    · obtain ⟨b, off, ha, hbl, hf⟩ := (HH.out.later (blw_trans HB.out HW.out)).s.at_ k hlt
      subst ha
      obtain ⟨m, hm⟩ : ∃ m, m = K.svcs.getD k Sv.none := ⟨_, rfl⟩
      rw [← hm] at hf
      obtain ⟨z0, z1, z2, z3, z4, z5, z6, z7, z8, z9, z10, z11, z12, _⟩ := hf
      have HM := hid hm
      clear hm
      cases hq : (m.nm.toList == nm.toList)
      · have HN : Hid (∀ j, j < k + 1 → (same (K.svcs.getD j Sv.none).nm nm) = false) := by
          intro j hj
          by_cases e : j = k
          · subst e; show (same (K.svcs.getD j Sv.none).nm nm) = false; rw [← HM.out]; exact hq
          · exact HA.out j (by omega)
        clear HA
        go_wp2
        go_roundw
        case rel => exact ⟨k + 1, by omega, by go_num, HW.out, HN.out⟩
        case measure => simp [intOf]; omega
      · have HE : Hid (R = k) := by
          show R = k
          rw [HR.out]
          exact firstTo_hit hlt (by show (same (K.svcs.getD k Sv.none).nm nm) = true; rw [← HM.out]; exact hq) HA.out
        clear HA
        go_wp2
        go_ret
        exact ⟨Pl.ret_int HE.out.symm, blw_trans HB.out HW.out⟩
    · obtain rfl : k = K.svcs.length := by omega
      have HE : Hid (R = -1) := by show R = -1; rw [HR.out]; exact firstTo_none HA.out
      go_wp2
      go_ret
      exact ⟨Pl.ret_int HE.out.symm, blw_trans HB.out HW.out⟩

set_option maxHeartbeats 4000000 in
theorem l12BerthIx (K : SBk) (a0 a1 a2 : Option Addr) (c0 c1 c2 : Nat) (nm : ByteArray) (w : World) (h : SBkV w a0 a1 a2 K) :
    Calls Tryz.prog 47 #[.agg #[.int .i64 K.now, .slice a0 K.svcs.length c0, .slice a1 K.cps.length c1, .slice a2 K.bts.length c2], .string nm] w fun e w' => e = .returned (.int .i64 (btIx K.bts nm)) ∧ Below w.heap.size w w' := by
  have hl := h.b.len
  unfold maxLen at hl
  have HH : Hid (SBkV w a0 a1 a2 K) := h
  clear h
  obtain ⟨R, hR⟩ : ∃ R, R = btIx K.bts nm := ⟨_, rfl⟩
  have HR : Hid (R = firstTo (fun i => same (K.bts.getD i Bt.none).nm nm) K.bts.length) := hR
  rw [← hR]
  clear hR
  obtain ⟨wa, hwa⟩ : ∃ wa, wa = w.alloc (.cells #[.int .i64 K.now, .slice a0 K.svcs.length c0, .slice a1 K.cps.length c1, .slice a2 K.bts.length c2] 37) := ⟨_, rfl⟩
  have HB : Hid (Below w.heap.size w wa) := by show Below _ _ _; rw [hwa]; exact blw_alloc (Below.refl _ _) _
  have HX : Hid (Box4 wa w.heap.size (.int .i64 K.now) (.slice a0 K.svcs.length c0) (.slice a1 K.cps.length c1) (.slice a2 K.bts.length c2)) := by show Box4 _ _ _ _ _ _; rw [hwa]; exact Box4.new' w _ _ _ _ _ _ rfl
  go_enter Tryz.func47, Tryz.ntmps47
  go_upto_region 1 with fail
  rw [← hwa]
  clear hwa
  go_wp2
  go_loopw [5] (fun i wr => ∃ k : Nat, k ≤ K.bts.length ∧ i = .int .i64 k ∧ Below wa.heap.size wa wr ∧ ∀ j, j < k → (same (K.bts.getD j Bt.none).nm nm) = false) (fun i _ => K.bts.length - (intOf i).toNat)
  case atStart => exact ⟨0, Nat.zero_le _, rfl, Below.refl _ _, fun j hj => absurd hj (Nat.not_lt_zero j)⟩
  case round =>
    obtain ⟨k, hk, rfl, hW, hall⟩ := hrel
    have HA := hid hall
    have HW := hid hW
    obtain ⟨yz, y0, y1, y2, y3⟩ := HX.out.later hW
    clear hall hW
    by_cases hlt : k < K.bts.length
    · obtain ⟨b, off, ha, hbl, hf⟩ := (HH.out.later (blw_trans HB.out HW.out)).b.at_ k hlt
      subst ha
      obtain ⟨m, hm⟩ : ∃ m, m = K.bts.getD k Bt.none := ⟨_, rfl⟩
      rw [← hm] at hf
      obtain ⟨z0, z1, _⟩ := hf
      have HM := hid hm
      clear hm
      cases hq : (m.nm.toList == nm.toList)
      · have HN : Hid (∀ j, j < k + 1 → (same (K.bts.getD j Bt.none).nm nm) = false) := by
          intro j hj
          by_cases e : j = k
          · subst e; show (same (K.bts.getD j Bt.none).nm nm) = false; rw [← HM.out]; exact hq
          · exact HA.out j (by omega)
        clear HA
        go_wp2
        go_roundw
        case rel => exact ⟨k + 1, by omega, by go_num, HW.out, HN.out⟩
        case measure => simp [intOf]; omega
      · have HE : Hid (R = k) := by
          show R = k
          rw [HR.out]
          exact firstTo_hit hlt (by show (same (K.bts.getD k Bt.none).nm nm) = true; rw [← HM.out]; exact hq) HA.out
        clear HA
        go_wp2
        go_ret
        exact ⟨Pl.ret_int HE.out.symm, blw_trans HB.out HW.out⟩
    · obtain rfl : k = K.bts.length := by omega
      have HE : Hid (R = -1) := by show R = -1; rw [HR.out]; exact firstTo_none HA.out
      go_wp2
      go_ret
      exact ⟨Pl.ret_int HE.out.symm, blw_trans HB.out HW.out⟩

set_option maxHeartbeats 4000000 in
theorem l12CopyIx (K : SBk) (a0 a1 a2 : Option Addr) (c0 c1 c2 : Nat) (nm : ByteArray) (num : Int) (w : World) (h : SBkV w a0 a1 a2 K) :
    Calls Tryz.prog 46 #[.agg #[.int .i64 K.now, .slice a0 K.svcs.length c0, .slice a1 K.cps.length c1, .slice a2 K.bts.length c2], .string nm, .int .i64 num] w fun e w' => e = .returned (.int .i64 (cpIx K.cps nm num)) ∧ Below w.heap.size w w' := by
  have hl := h.c.len
  unfold maxLen at hl
  have HH : Hid (SBkV w a0 a1 a2 K) := h
  clear h
  obtain ⟨R, hR⟩ : ∃ R, R = cpIx K.cps nm num := ⟨_, rfl⟩
  have HR : Hid (R = firstTo (fun i => same (K.cps.getD i Cp.none).svc nm && ((K.cps.getD i Cp.none).num == num)) K.cps.length) := hR
  rw [← hR]
  clear hR
  obtain ⟨wa, hwa⟩ : ∃ wa, wa = w.alloc (.cells #[.int .i64 K.now, .slice a0 K.svcs.length c0, .slice a1 K.cps.length c1, .slice a2 K.bts.length c2] 37) := ⟨_, rfl⟩
  have HB : Hid (Below w.heap.size w wa) := by show Below _ _ _; rw [hwa]; exact blw_alloc (Below.refl _ _) _
  have HX : Hid (Box4 wa w.heap.size (.int .i64 K.now) (.slice a0 K.svcs.length c0) (.slice a1 K.cps.length c1) (.slice a2 K.bts.length c2)) := by show Box4 _ _ _ _ _ _; rw [hwa]; exact Box4.new' w _ _ _ _ _ _ rfl
  go_enter Tryz.func46, Tryz.ntmps46
  go_upto_region 1 with fail
  rw [← hwa]
  clear hwa
  go_wp2
  go_loopw [7] (fun i wr => ∃ k : Nat, k ≤ K.cps.length ∧ i = .int .i64 k ∧ Below wa.heap.size wa wr ∧ ∀ j, j < k → (same (K.cps.getD j Cp.none).svc nm && ((K.cps.getD j Cp.none).num == num)) = false) (fun i _ => K.cps.length - (intOf i).toNat)
  case atStart => exact ⟨0, Nat.zero_le _, rfl, Below.refl _ _, fun j hj => absurd hj (Nat.not_lt_zero j)⟩
  case round =>
    obtain ⟨k, hk, rfl, hW, hall⟩ := hrel
    have HA := hid hall
    have HW := hid hW
    obtain ⟨yz, y0, y1, y2, y3⟩ := HX.out.later hW
    clear hall hW
    by_cases hlt : k < K.cps.length
    · obtain ⟨b, off, ha, hbl, hf⟩ := (HH.out.later (blw_trans HB.out HW.out)).c.at_ k hlt
      subst ha
      obtain ⟨m, hm⟩ : ∃ m, m = K.cps.getD k Cp.none := ⟨_, rfl⟩
      rw [← hm] at hf
      obtain ⟨z0, z1, z2, z3, z4, z5, z6, _⟩ := hf
      have HM := hid hm
      clear hm
      cases g1 : (m.svc.toList == nm.toList) <;> cases g2 : (m.num == num)
      case true.true =>
        have hq : (m.svc.toList == nm.toList && (m.num == num)) = true := by rw [g1, g2]; rfl
        have HE : Hid (R = k) := by
          show R = k
          rw [HR.out]
          exact firstTo_hit hlt (by show (same (K.cps.getD k Cp.none).svc nm && ((K.cps.getD k Cp.none).num == num)) = true; rw [← HM.out]; exact hq) HA.out
        clear HA hq
        go_wp2
        go_ret
        exact ⟨Pl.ret_int HE.out.symm, blw_trans HB.out HW.out⟩
      all_goals
        have hq : (m.svc.toList == nm.toList && (m.num == num)) = false := by rw [g1, g2]; rfl
        have HN : Hid (∀ j, j < k + 1 → (same (K.cps.getD j Cp.none).svc nm && ((K.cps.getD j Cp.none).num == num)) = false) := by
          intro j hj
          by_cases e : j = k
          · subst e; show (same (K.cps.getD j Cp.none).svc nm && ((K.cps.getD j Cp.none).num == num)) = false; rw [← HM.out]; exact hq
          · exact HA.out j (by omega)
        clear HA hq
        go_wp2
        go_roundw
        case rel => exact ⟨k + 1, by omega, by go_num, HW.out, HN.out⟩
        case measure => simp [intOf]; omega
    · obtain rfl : k = K.cps.length := by omega
      have HE : Hid (R = -1) := by show R = -1; rw [HR.out]; exact firstTo_none HA.out
      go_wp2
      go_ret
      exact ⟨Pl.ret_int HE.out.symm, blw_trans HB.out HW.out⟩

end Go.Proofs.YtclagbakddkjcaaGreat
