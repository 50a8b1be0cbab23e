/-
  Stewards: the specification's bounds, names, services, the order of copies.
-/
import Derived.WalkSpells
import Derived.WalkLawsBesides
import Derived.Test.YtfmcdpgeplkcgaaStP
namespace Go.Proofs.Ytfmcdpgeplkcgaa
open Go.RowKit Go.Deep

set_option maxHeartbeats 400000 in
theorem l12InS (n lo hi : Int) (w : World) :
    Calls Try.prog 21 #[.int .i64 n, .int .i64 lo, .int .i64 hi] w fun e w' => e = .returned (.bool (inB n lo hi)) ∧ w = w' := by
  unfold inB
  by_cases h : lo ≤ n
  · go_enter Try.func21, Try.ntmps21
    go_wp2
    go_ret
    exact ⟨Pl.ret_bool (by simp [h]), rfl⟩
  · go_enter Try.func21, Try.ntmps21
    go_wp2
    go_ret
    exact ⟨Pl.ret_bool (by rw [Bool.eq_iff_iff]; simp; omega), rfl⟩

set_option maxHeartbeats 1000000 in
theorem l12NameS (s : ByteArray) (w : World) (hs : s.size ≤ maxLen) :
    Calls Try.prog 23 #[.string s] w fun e w' => e = .returned (.bool (snmOk s)) ∧ w = w' := by
  unfold maxLen at hs
  by_cases hin : 1 ≤ s.size ∧ s.size ≤ 20
  · obtain ⟨h1, h2⟩ := hin
    have hb : inB (s.size : Int) 1 20 = true := by unfold inB; simp; omega
    go_enter Try.func23, Try.ntmps23
    go_wp2_with (go_at_call 21; refine (l12InS _ _ _ _).mono ?_; rintro e w' ⟨rfl, rfl⟩)
    go_loop [3] (fun i => ∃ k : Nat, k ≤ s.size ∧ i = .int .i64 k ∧ (s.data.toList.take k).all Pl.nameByte = true) (fun i => s.size - (intOf i).toNat)
    case atStart => exact ⟨0, Nat.zero_le _, rfl, rfl⟩
    case round =>
      obtain ⟨k, hk, rfl, hall⟩ := hrel
      have HA : Hid ((s.data.toList.take k).all Pl.nameByte = true) := hall
      clear hall
      by_cases hlt : k < s.size
      · by_cases hn : Pl.nameByte s[k] = true
        · have HS : Hid ((s.data.toList.take (k + 1)).all Pl.nameByte = true) := by show _ = true; rw [Pl.all_snoc _ _ _ hlt, HA.out, hn]; rfl
          have hq : (97 ≤ s[k].toNat ∧ s[k].toNat ≤ 122) ∨ (48 ≤ s[k].toNat ∧ s[k].toNat ≤ 57) ∨ s[k].toNat = 45 := by
            simp [Pl.nameByte] at hn; omega
          clear hn
          by_cases a1 : (97 : Int) ≤ (s[k].toNat : Int) <;> by_cases a2 : (s[k].toNat : Int) ≤ 122 <;> by_cases a3 : (48 : Int) ≤ (s[k].toNat : Int) <;> by_cases a4 : (s[k].toNat : Int) ≤ 57 <;> by_cases a5 : (s[k].toNat : Int) = 45
          all_goals first
            | (exfalso; omega)
            | (clear hq
               (first | (have a6 : ((s[k].toNat : Int) == 45) = false := by simpa using a5) | (have a6 : ((s[k].toNat : Int) == 45) = true := by simpa using a5))
               go_wp2
               go_round
               case rel => exact ⟨k + 1, by omega, by go_num, HS.out⟩
               case measure => simp [intOf]; omega)
        · have hn' : Pl.nameByte s[k] = false := by simpa using hn
          have HF : Hid (snmOk s = false) := by show snmOk s = false; simp [snmOk, Pl.nameBytes, Pl.all_false _ s k hlt hn']
          have hq : ¬ ((97 ≤ s[k].toNat ∧ s[k].toNat ≤ 122) ∨ (48 ≤ s[k].toNat ∧ s[k].toNat ≤ 57) ∨ s[k].toNat = 45) := by
            intro h; simp [Pl.nameByte] at hn; omega
          clear hn hn'
          by_cases a1 : (97 : Int) ≤ (s[k].toNat : Int) <;> by_cases a2 : (s[k].toNat : Int) ≤ 122 <;> by_cases a3 : (48 : Int) ≤ (s[k].toNat : Int) <;> by_cases a4 : (s[k].toNat : Int) ≤ 57 <;> by_cases a5 : (s[k].toNat : Int) = 45
          all_goals first
            | (exfalso; omega)
            | (clear hq
               (first | (have a6 : ((s[k].toNat : Int) == 45) = false := by simpa using a5) | (have a6 : ((s[k].toNat : Int) == 45) = true := by simpa using a5))
               go_wp2
               go_ret
               exact ⟨Pl.ret_bool HF.out.symm, rfl⟩)
      · have HF : Hid (snmOk s = true) := by
          show snmOk s = true
          have := Pl.all_whole Pl.nameByte s k (by omega)
          simp only [snmOk, Pl.nameBytes, ← this, HA.out]
          simp; omega
        go_wp2
        go_ret
        exact ⟨Pl.ret_bool HF.out.symm, rfl⟩
  · have HF : Hid (snmOk s = false) := by
      show snmOk s = false
      have : (decide (1 ≤ s.size) && decide (s.size ≤ 20)) = false := by
        rw [Bool.eq_false_iff]; simp; omega
      simp [snmOk, this]
    have hb : inB (s.size : Int) 1 20 = false := by
      unfold inB; rw [Bool.eq_false_iff]; simp; omega
    clear hin
    go_enter Try.func23, Try.ntmps23
    go_wp2_with (go_at_call 21; refine (l12InS _ _ _ _).mono ?_; rintro e w' ⟨rfl, rfl⟩)
    go_ret
    exact ⟨Pl.ret_bool HF.out.symm, rfl⟩

set_option maxHeartbeats 4000000 in
theorem l12ServiceS (s : Sv) (now : Int) (w : World) (hs : s.sized) :
    Calls Try.prog 22 #[.agg #[.string s.nm, .int .i64 s.ver, .bool s.gone, .int .i64 s.image, .int .i64 s.want, .int .i64 s.down, .int .i64 s.over, .int .i64 s.next, .int .i64 s.per, .int .i64 s.least, .int .i64 s.most, .int .i64 s.load, .int .i64 s.cool], .int .i64 now] w fun e w' => e = .returned (.bool (svOk s now)) ∧ Below w.heap.size w w' := by
  have HS : Hid (s.nm.size ≤ maxLen) := hs
  have hdo : inB s.down 0 10 = true → inB s.over 0 10 = true → 0 ≤ s.down ∧ s.down ≤ 10 ∧ 0 ≤ s.over ∧ s.over ≤ 10 := by
    unfold inB; simp; omega
  obtain ⟨R, hR⟩ : ∃ R, R = svOk s now := ⟨_, rfl⟩
  have HR : Hid (R = svOk s now) := hR
  rw [← hR]
  clear hR hs
  cases h0 : snmOk s.nm
  · have HF : Hid (R = false) := by show R = false; rw [HR.out]; simp [svOk, h0]
    clear HR hdo
    go_enter Try.func22, Try.ntmps22
    go_wp2_with (first | (go_at_call 21; refine (l12InS _ _ _ _).mono ?_; rintro e w' ⟨rfl, rfl⟩) | (go_at_call 23; refine (l12NameS _ _ HS.out).mono ?_; rintro e w' ⟨rfl, rfl⟩))
    go_ret
    exact ⟨Pl.ret_bool HF.out.symm, blw_alloc (Below.refl _ _) _⟩
  cases h1 : inB s.ver 1 now
  · have HF : Hid (R = false) := by show R = false; rw [HR.out]; simp [svOk, h0, h1]
    clear HR hdo
    go_enter Try.func22, Try.ntmps22
    go_wp2_with (first | (go_at_call 21; refine (l12InS _ _ _ _).mono ?_; rintro e w' ⟨rfl, rfl⟩) | (go_at_call 23; refine (l12NameS _ _ HS.out).mono ?_; rintro e w' ⟨rfl, rfl⟩))
    go_ret
    exact ⟨Pl.ret_bool HF.out.symm, blw_alloc (Below.refl _ _) _⟩
  cases h2 : inB s.image 1 1000000
  · have HF : Hid (R = false) := by show R = false; rw [HR.out]; simp [svOk, h0, h1, h2]
    clear HR hdo
    go_enter Try.func22, Try.ntmps22
    go_wp2_with (first | (go_at_call 21; refine (l12InS _ _ _ _).mono ?_; rintro e w' ⟨rfl, rfl⟩) | (go_at_call 23; refine (l12NameS _ _ HS.out).mono ?_; rintro e w' ⟨rfl, rfl⟩))
    go_ret
    exact ⟨Pl.ret_bool HF.out.symm, blw_alloc (Below.refl _ _) _⟩
  cases h3 : inB s.next 1 1000000
  · have HF : Hid (R = false) := by show R = false; rw [HR.out]; simp [svOk, h0, h1, h2, h3]
    clear HR hdo
    go_enter Try.func22, Try.ntmps22
    go_wp2_with (first | (go_at_call 21; refine (l12InS _ _ _ _).mono ?_; rintro e w' ⟨rfl, rfl⟩) | (go_at_call 23; refine (l12NameS _ _ HS.out).mono ?_; rintro e w' ⟨rfl, rfl⟩))
    go_ret
    exact ⟨Pl.ret_bool HF.out.symm, blw_alloc (Below.refl _ _) _⟩
  cases h4 : inB s.want 0 10
  · have HF : Hid (R = false) := by show R = false; rw [HR.out]; simp [svOk, h0, h1, h2, h3, h4]
    clear HR hdo
    go_enter Try.func22, Try.ntmps22
    go_wp2_with (first | (go_at_call 21; refine (l12InS _ _ _ _).mono ?_; rintro e w' ⟨rfl, rfl⟩) | (go_at_call 23; refine (l12NameS _ _ HS.out).mono ?_; rintro e w' ⟨rfl, rfl⟩))
    go_ret
    exact ⟨Pl.ret_bool HF.out.symm, blw_alloc (Below.refl _ _) _⟩
  cases h5 : inB s.down 0 10
  · have HF : Hid (R = false) := by show R = false; rw [HR.out]; simp [svOk, h0, h1, h2, h3, h4, h5]
    clear HR hdo
    go_enter Try.func22, Try.ntmps22
    go_wp2_with (first | (go_at_call 21; refine (l12InS _ _ _ _).mono ?_; rintro e w' ⟨rfl, rfl⟩) | (go_at_call 23; refine (l12NameS _ _ HS.out).mono ?_; rintro e w' ⟨rfl, rfl⟩))
    go_ret
    exact ⟨Pl.ret_bool HF.out.symm, blw_alloc (Below.refl _ _) _⟩
  cases h6 : inB s.over 0 10
  · have HF : Hid (R = false) := by show R = false; rw [HR.out]; simp [svOk, h0, h1, h2, h3, h4, h5, h6]
    clear HR hdo
    go_enter Try.func22, Try.ntmps22
    go_wp2_with (first | (go_at_call 21; refine (l12InS _ _ _ _).mono ?_; rintro e w' ⟨rfl, rfl⟩) | (go_at_call 23; refine (l12NameS _ _ HS.out).mono ?_; rintro e w' ⟨rfl, rfl⟩))
    go_ret
    exact ⟨Pl.ret_bool HF.out.symm, blw_alloc (Below.refl _ _) _⟩
  have hq := hdo h5 h6
  clear hdo
  by_cases h7 : s.down + s.over = 0
  · have HF : Hid (R = false) := by show R = false; rw [HR.out]; simp [svOk, h0, h1, h2, h3, h4, h5, h6, h7]
    clear HR
    go_enter Try.func22, Try.ntmps22
    go_wp2_with (first | (go_at_call 21; refine (l12InS _ _ _ _).mono ?_; rintro e w' ⟨rfl, rfl⟩) | (go_at_call 23; refine (l12NameS _ _ HS.out).mono ?_; rintro e w' ⟨rfl, rfl⟩))
    go_ret
    exact ⟨Pl.ret_bool HF.out.symm, blw_alloc (Below.refl _ _) _⟩
  by_cases h8 : s.per = 0
  · rcases (Decidable.em (s.least = 0)).symm with g0 | g0
    · have HF : Hid (R = false) := by show R = false; rw [HR.out]; simp [svOk, h0, h1, h2, h3, h4, h5, h6, h7, h8, g0]
      clear HR
      go_enter Try.func22, Try.ntmps22
      go_wp2_with (first | (go_at_call 21; refine (l12InS _ _ _ _).mono ?_; rintro e w' ⟨rfl, rfl⟩) | (go_at_call 23; refine (l12NameS _ _ HS.out).mono ?_; rintro e w' ⟨rfl, rfl⟩))
      go_ret
      exact ⟨Pl.ret_bool (by first | exact HF.out.symm | (rw [HF.out]; simpa using g0)), blw_alloc (Below.refl _ _) _⟩
    rcases (Decidable.em (s.most = 0)).symm with g1 | g1
    · have HF : Hid (R = false) := by show R = false; rw [HR.out]; simp [svOk, h0, h1, h2, h3, h4, h5, h6, h7, h8, g0, g1]
      clear HR
      go_enter Try.func22, Try.ntmps22
      go_wp2_with (first | (go_at_call 21; refine (l12InS _ _ _ _).mono ?_; rintro e w' ⟨rfl, rfl⟩) | (go_at_call 23; refine (l12NameS _ _ HS.out).mono ?_; rintro e w' ⟨rfl, rfl⟩))
      go_ret
      exact ⟨Pl.ret_bool (by first | exact HF.out.symm | (rw [HF.out]; simpa using g1)), blw_alloc (Below.refl _ _) _⟩
    rcases (Decidable.em (s.load = 0)).symm with g2 | g2
    · have HF : Hid (R = false) := by show R = false; rw [HR.out]; simp [svOk, h0, h1, h2, h3, h4, h5, h6, h7, h8, g0, g1, g2]
      clear HR
      go_enter Try.func22, Try.ntmps22
      go_wp2_with (first | (go_at_call 21; refine (l12InS _ _ _ _).mono ?_; rintro e w' ⟨rfl, rfl⟩) | (go_at_call 23; refine (l12NameS _ _ HS.out).mono ?_; rintro e w' ⟨rfl, rfl⟩))
      go_ret
      exact ⟨Pl.ret_bool (by first | exact HF.out.symm | (rw [HF.out]; simpa using g2)), blw_alloc (Below.refl _ _) _⟩
    rcases (Decidable.em (s.cool = 0)).symm with g3 | g3
    · have HF : Hid (R = false) := by show R = false; rw [HR.out]; simp [svOk, h0, h1, h2, h3, h4, h5, h6, h7, h8, g0, g1, g2, g3]
      clear HR
      go_enter Try.func22, Try.ntmps22
      go_wp2_with (first | (go_at_call 21; refine (l12InS _ _ _ _).mono ?_; rintro e w' ⟨rfl, rfl⟩) | (go_at_call 23; refine (l12NameS _ _ HS.out).mono ?_; rintro e w' ⟨rfl, rfl⟩))
      go_ret
      exact ⟨Pl.ret_bool (by first | exact HF.out.symm | (rw [HF.out]; simpa using g3)), blw_alloc (Below.refl _ _) _⟩
    have HF : Hid (R = true) := by show R = true; rw [HR.out]; simp [svOk, h0, h1, h2, h3, h4, h5, h6, h7, h8, g0, g1, g2, g3]
    clear HR
    go_enter Try.func22, Try.ntmps22
    go_wp2_with (first | (go_at_call 21; refine (l12InS _ _ _ _).mono ?_; rintro e w' ⟨rfl, rfl⟩) | (go_at_call 23; refine (l12NameS _ _ HS.out).mono ?_; rintro e w' ⟨rfl, rfl⟩))
    go_ret
    exact ⟨Pl.ret_bool HF.out.symm, blw_alloc (Below.refl _ _) _⟩
  · cases g0 : inB s.per 0 1000000
    · have HF : Hid (R = false) := by show R = false; rw [HR.out]; simp [svOk, h0, h1, h2, h3, h4, h5, h6, h7, h8, g0]
      clear HR
      go_enter Try.func22, Try.ntmps22
      go_wp2_with (first | (go_at_call 21; refine (l12InS _ _ _ _).mono ?_; rintro e w' ⟨rfl, rfl⟩) | (go_at_call 23; refine (l12NameS _ _ HS.out).mono ?_; rintro e w' ⟨rfl, rfl⟩))
      go_ret
      exact ⟨Pl.ret_bool HF.out.symm, blw_alloc (Below.refl _ _) _⟩
    cases g1 : inB s.load 0 1000000
    · have HF : Hid (R = false) := by show R = false; rw [HR.out]; simp [svOk, h0, h1, h2, h3, h4, h5, h6, h7, h8, g0, g1]
      clear HR
      go_enter Try.func22, Try.ntmps22
      go_wp2_with (first | (go_at_call 21; refine (l12InS _ _ _ _).mono ?_; rintro e w' ⟨rfl, rfl⟩) | (go_at_call 23; refine (l12NameS _ _ HS.out).mono ?_; rintro e w' ⟨rfl, rfl⟩))
      go_ret
      exact ⟨Pl.ret_bool HF.out.symm, blw_alloc (Below.refl _ _) _⟩
    cases g2 : inB s.least 0 10
    · have HF : Hid (R = false) := by show R = false; rw [HR.out]; simp [svOk, h0, h1, h2, h3, h4, h5, h6, h7, h8, g0, g1, g2]
      clear HR
      go_enter Try.func22, Try.ntmps22
      go_wp2_with (first | (go_at_call 21; refine (l12InS _ _ _ _).mono ?_; rintro e w' ⟨rfl, rfl⟩) | (go_at_call 23; refine (l12NameS _ _ HS.out).mono ?_; rintro e w' ⟨rfl, rfl⟩))
      go_ret
      exact ⟨Pl.ret_bool HF.out.symm, blw_alloc (Below.refl _ _) _⟩
    cases g3 : inB s.most s.least 10
    · have HF : Hid (R = false) := by show R = false; rw [HR.out]; simp [svOk, h0, h1, h2, h3, h4, h5, h6, h7, h8, g0, g1, g2, g3]
      clear HR
      go_enter Try.func22, Try.ntmps22
      go_wp2_with (first | (go_at_call 21; refine (l12InS _ _ _ _).mono ?_; rintro e w' ⟨rfl, rfl⟩) | (go_at_call 23; refine (l12NameS _ _ HS.out).mono ?_; rintro e w' ⟨rfl, rfl⟩))
      go_ret
      exact ⟨Pl.ret_bool HF.out.symm, blw_alloc (Below.refl _ _) _⟩
    cases g4 : inB s.cool 0 3
    · have HF : Hid (R = false) := by show R = false; rw [HR.out]; simp [svOk, h0, h1, h2, h3, h4, h5, h6, h7, h8, g0, g1, g2, g3, g4]
      clear HR
      go_enter Try.func22, Try.ntmps22
      go_wp2_with (first | (go_at_call 21; refine (l12InS _ _ _ _).mono ?_; rintro e w' ⟨rfl, rfl⟩) | (go_at_call 23; refine (l12NameS _ _ HS.out).mono ?_; rintro e w' ⟨rfl, rfl⟩))
      go_ret
      exact ⟨Pl.ret_bool HF.out.symm, blw_alloc (Below.refl _ _) _⟩
    have HF : Hid (R = true) := by show R = true; rw [HR.out]; simp [svOk, h0, h1, h2, h3, h4, h5, h6, h7, h8, g0, g1, g2, g3, g4]
    clear HR
    go_enter Try.func22, Try.ntmps22
    go_wp2_with (first | (go_at_call 21; refine (l12InS _ _ _ _).mono ?_; rintro e w' ⟨rfl, rfl⟩) | (go_at_call 23; refine (l12NameS _ _ HS.out).mono ?_; rintro e w' ⟨rfl, rfl⟩))
    go_ret
    exact ⟨Pl.ret_bool HF.out.symm, blw_alloc (Below.refl _ _) _⟩

set_option maxHeartbeats 4000000 in
theorem l12AheadS (a b : Cp) (w : World) :
    Calls Try.prog 25 #[.agg #[.string a.svc, .int .i64 a.num, .int .i64 a.ver, .int .i64 a.image, .int .i64 a.state, .bool a.ending, .string a.berth], .agg #[.string b.svc, .int .i64 b.num, .int .i64 b.ver, .int .i64 b.image, .int .i64 b.state, .bool b.ending, .string b.berth]] w fun e w' => e = .returned (.bool (ahead a b)) ∧ Below w.heap.size w w' := by
  obtain ⟨R, hR⟩ : ∃ R, R = ahead a b := ⟨_, rfl⟩
  have HR : Hid (R = (Op.bytesLess a.svc.toList b.svc.toList || ((a.svc.toList == b.svc.toList) && decide (a.num < b.num)))) := hR
  rw [← hR]
  clear hR
  have HD : Hid (∀ x y : Bool, Op.bytesLess a.svc.toList b.svc.toList = x → (a.svc.toList == b.svc.toList) = y → (a.num < b.num → R = (x || y)) ∧ (¬ a.num < b.num → R = x)) := by
    intro x y hx hy
    rw [HR.out, hx, hy]
    exact ⟨fun h => by simp [h], fun h => by simp [h]⟩
  clear HR
  cases h0 : Op.bytesLess a.svc.toList b.svc.toList
  all_goals cases h1 : (a.svc.toList == b.svc.toList)
  all_goals by_cases h2 : a.num < b.num
  all_goals
    have HF := HD.out _ _ h0 h1
    first | have HG := hid (HF.1 h2) | have HG := hid (HF.2 h2)
    clear HF HD
    go_enter Try.func25, Try.ntmps25
    go_wp2
    go_ret
    exact ⟨Pl.ret_bool HG.out.symm, blw_alloc (blw_alloc (Below.refl _ _) _) _⟩

end Go.Proofs.Ytfmcdpgeplkcgaa
