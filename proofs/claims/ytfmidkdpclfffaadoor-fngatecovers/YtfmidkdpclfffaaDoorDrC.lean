/-
  Draws: rules.
-/
import Derived.Test.YtfmidkdpclfffaaDoorDrB
namespace Go.Proofs.YtfmidkdpclfffaaDoor
open Go.RowKit Go.Deep

theorem ints_fr {R : Nat} {W W' : World} {b : Nat} {L : List Int} (h : IntsIn W b L) (hF : Fr R W W') (hR : R < b) : IntsIn W' b L :=
  ⟨Nat.lt_of_lt_of_le h.lt hF.bel.size, h.len, fun i hi => (hF.cell hR h.lt).trans (h.at_ i hi)⟩
theorem ints_sc {W : World} {b B : Nat} {L : List Int} (h : IntsIn W b L) (hne : b ≠ B) (o : Nat) (u : Value) : IntsIn (W.setCell ⟨B, o, none⟩ u) b L :=
  ⟨by rw [sc_size']; exact h.lt, h.len, fun i hi => (sc_ne _ _ _ _ _ _ (Or.inl hne)).trans (h.at_ i hi)⟩
theorem ints_four {W : World} {b B : Nat} {L : List Int} (h : IntsIn W b L) (hne : b ≠ B) (v0 v1 v2 v3 : Value) : IntsIn ((((W.setCell ⟨B, 0, none⟩ v0).setCell ⟨B, 1, none⟩ v1).setCell ⟨B, 2, none⟩ v2).setCell ⟨B, 3, none⟩ v3) b L :=
  ints_sc (ints_sc (ints_sc (ints_sc h hne _ _) hne _ _) hne _ _) hne _ _

theorem odd_mul (m s : Nat) : (2 * m + 1) * s = m * (s + s) + s := by
  rw [Nat.add_mul, Nat.mul_assoc, Nat.mul_add]; omega
theorem even_mul (m s : Nat) : (2 * m) * s = m * (s + s) := by
  rw [Nat.mul_assoc, Nat.mul_add]; omega

set_option maxRecDepth 8000 in
set_option maxHeartbeats 4000000 in
theorem many_any (s0 : ByteArray) (n0 : Nat) (W : World) (h1 : s0.size ≤ 16) (h2 : n0 ≤ 100) :
    Calls Tryd.prog 38 #[.string s0, .int .i64 (n0 : Nat)] W fun e W' => (∃ s : ByteArray, e = .returned (.string s) ∧ s.size ≤ 1600) ∧ W = W' := by
  have hT : n0 * s0.size ≤ 1600 := Nat.mul_le_mul h2 h1
  go_enter Tryd.func38, Tryd.ntmps38
  go_wp2
  go_loopw [0, 1, 5] (fun s i o wr => ∃ (sb ob : ByteArray) (n : Nat), s = .string sb ∧ o = .string ob ∧ i = .int .i64 (n : Nat) ∧ ob.size + n * sb.size ≤ 1600 ∧ n ≤ 100 ∧ (1 ≤ n → sb.size ≤ 1600) ∧ wr = W) (fun _ i _ _ => (intOf i).toNat)
  case atStart => exact ⟨s0, ⟨#[]⟩, n0, rfl, rfl, rfl, by have : (⟨#[]⟩ : ByteArray).size = 0 := rfl; omega, h2, fun _ => by omega, rfl⟩
  case round =>
    obtain ⟨sb, ob, n, rfl, rfl, rfl, hs, hn, hsb, rfl⟩ := hrel
    have HS : Hid (ob.size + n * sb.size ≤ 1600) := hs
    have hob : ob.size ≤ 1600 := by have := Nat.zero_le (n * sb.size); omega
    clear hs
    by_cases c0 : n = 0
    · subst c0
      go_wp2
      go_ret
      exact ⟨⟨ob, rfl, hob⟩, rfl⟩
    · have hsb' := hsb (by omega)
      have c1 : (0 : Int) < (n : Int) := by omega
      obtain ⟨m, hm⟩ : ∃ m : Nat, m = n / 2 := ⟨_, rfl⟩
      have f1 : ((n : Int) / 2) = (m : Int) := by omega
      by_cases c2 : n % 2 = 1
      · have f2 : ((n : Int) % 2) = 1 := by omega
        have HN : Hid (n = 2 * m + 1) := by show n = _; omega
        have hmn : m < n := by omega
        clear hm
        go_wp2
        go_roundw
        case rel =>
          refine ⟨sb ++ sb, ob ++ sb, m, rfl, rfl, by go_num, ?_, by omega, fun h => ?_, trivial⟩
          · have h := HS.out
            rw [HN.out, odd_mul] at h
            rw [ByteArray.size_append, ByteArray.size_append]
            omega
          · have h' := HS.out
            rw [HN.out, odd_mul] at h'
            have : 1 * (sb.size + sb.size) ≤ m * (sb.size + sb.size) := Nat.mul_le_mul_right _ h
            rw [ByteArray.size_append]
            omega
        case measure => simp [intOf]; omega
      · have f2 : ((n : Int) % 2) = 0 := by omega
        have HN : Hid (n = 2 * m) := by show n = _; omega
        have hmn : m < n := by omega
        clear hm
        go_wp2
        go_roundw
        case rel =>
          refine ⟨sb ++ sb, ob, m, rfl, rfl, by go_num, ?_, by omega, fun h => ?_, trivial⟩
          · have h := HS.out
            rw [HN.out, even_mul] at h
            rw [ByteArray.size_append]
            omega
          · have h' := HS.out
            rw [HN.out, even_mul] at h'
            have : 1 * (sb.size + sb.size) ≤ m * (sb.size + sb.size) := Nat.mul_le_mul_right _ h
            rw [ByteArray.size_append]
            omega
        case measure => simp [intOf]; omega

/-- Its texts are short. -/
def Rul.tiny (r : Rul) : Prop := r.kind.size ≤ 2000 ∧ r.team.size ≤ 2000 ∧ r.pre.size ≤ 2000
/-- A rule that was drawn: its verbs lie from lo on. -/
def RulD (W : World) (lo : Nat) (b : Nat) (r : Rul) : Prop := IntsIn W b r.verbs ∧ lo ≤ b ∧ r.verbs.length ≤ 10 ∧ r.tiny

set_option maxRecDepth 8000 in
set_option maxHeartbeats 4000000 in
theorem drawRule_any (R : Nat) (v : Value) (len p : Nat) (W : World) (h : Rd W R v len p) (hp : p ≤ 900000) :
    Calls Tryd.prog 36 #[.pointer (some ⟨R, 0, none⟩)] W fun e W' => (∃ (b c : Nat) (r : Rul), e = .returned (.agg #[.slice (some ⟨b, 0, none⟩) r.verbs.length c, .string r.kind, .string r.team, .string r.pre]) ∧ RulD W' W.heap.size b r) ∧ Dr R v len p 9 W W' := by
  obtain ⟨Wa, hWa⟩ : ∃ Wa, Wa = W.alloc (.cells #[.slice none 0 0, .string ⟨#[]⟩, .string ⟨#[]⟩, .string ⟨#[]⟩] 27) := ⟨_, rfl⟩
  obtain ⟨B, hB⟩ : ∃ B, B = W.heap.size := ⟨_, rfl⟩
  have hba : Below W.heap.size W Wa := by rw [hWa]; exact blw_alloc (Below.refl _ _) _
  have H0 : Hid (Fr R W Wa ∧ Rd Wa R v len p ∧ OwnBlk Wa B 27 4 ∧ R < B ∧ W.heap.size = B) := ⟨Fr.of_below hba h.own.lt, h.later hba, by rw [hWa, hB]; exact OwnBlk.alloc _ _ _ _ rfl, by rw [hB]; exact h.own.lt, by omega⟩
  clear h hba
  go_enter Tryd.func36, Tryd.ntmps36
  go_upto_region 1 with fail
  rw [← hWa, ← hB]
  clear hWa hB
  go_wp2_with fail
  refine (drawVerbs_any R v len p Wa H0.out.2.1 hp).mono ?_
  rintro e W1 ⟨⟨b, c, L, rfl, hL, hRb, hLl⟩, hF, p1, hp1, hR⟩
  have H1 : Hid (Fr R W W1 ∧ Rd W1 R v len p1 ∧ OwnBlk W1 B 27 4 ∧ R < B ∧ W.heap.size = B ∧ IntsIn W1 b L ∧ B < b) := ⟨H0.out.1.trans hF, hR, own_fr H0.out.2.2.1 hF H0.out.2.2.2.1, H0.out.2.2.2.1, H0.out.2.2.2.2, hL, Nat.lt_of_lt_of_le H0.out.2.2.1.lt hRb⟩
  clear hF hR H0 hL hRb
  go_wp2_with fail
  refine (of_lit R v len p1 W1 H1.out.2.1 (by omega) _ 5 rfl rfl (by omega) (by omega) 2000 (by decide)).mono ?_
  rintro e W2 ⟨⟨s1, rfl, hs1⟩, hF, hR⟩
  have H2 : Hid (Fr R W W2 ∧ Rd W2 R v len (p1 + 1) ∧ OwnBlk W2 B 27 4 ∧ R < B ∧ W.heap.size = B ∧ IntsIn W2 b L ∧ B < b) := ⟨H1.out.1.trans hF, hR, own_fr H1.out.2.2.1 hF H1.out.2.2.2.1, H1.out.2.2.2.1, H1.out.2.2.2.2.1, ints_fr H1.out.2.2.2.2.2.1 hF (Nat.lt_trans H1.out.2.2.2.1 H1.out.2.2.2.2.2.2), H1.out.2.2.2.2.2.2⟩
  clear hF hR H1
  go_wp2_with fail
  refine (of_lit R v len (p1 + 1) W2 H2.out.2.1 (by omega) _ 6 rfl rfl (by omega) (by omega) 2000 (by decide)).mono ?_
  rintro e W3 ⟨⟨s2, rfl, hs2⟩, hF, hR⟩
  have H3 : Hid (Fr R W W3 ∧ Rd W3 R v len (p1 + 1 + 1) ∧ OwnBlk W3 B 27 4 ∧ R < B ∧ W.heap.size = B ∧ IntsIn W3 b L ∧ B < b) := ⟨H2.out.1.trans hF, hR, own_fr H2.out.2.2.1 hF H2.out.2.2.2.1, H2.out.2.2.2.1, H2.out.2.2.2.2.1, ints_fr H2.out.2.2.2.2.2.1 hF (Nat.lt_trans H2.out.2.2.2.1 H2.out.2.2.2.2.2.2), H2.out.2.2.2.2.2.2⟩
  clear hF hR H2
  go_wp2_with fail
  refine (of_lit R v len (p1 + 1 + 1) W3 H3.out.2.1 (by omega) _ 5 rfl rfl (by omega) (by omega) 2000 (by decide)).mono ?_
  rintro e W4 ⟨⟨s3, rfl, hs3⟩, hF, hR⟩
  have H4 : Hid (Dr R v len p 9 W W4 ∧ OwnBlk W4 B 27 4 ∧ R < B ∧ W.heap.size = B ∧ IntsIn W4 b L ∧ B < b) := ⟨⟨H3.out.1.trans hF, _, by omega, hR⟩, own_fr H3.out.2.2.1 hF H3.out.2.2.2.1, H3.out.2.2.2.1, H3.out.2.2.2.2.1, ints_fr H3.out.2.2.2.2.2.1 hF (Nat.lt_trans H3.out.2.2.2.1 H3.out.2.2.2.2.2.2), H3.out.2.2.2.2.2.2⟩
  clear hF hR H3
  have hfz := H4.out.2.1.frozen
  have hz := H4.out.2.1.lt
  obtain ⟨z0, y0⟩ := H4.out.2.1.cell 0 (by omega)
  obtain ⟨z1, y1⟩ := H4.out.2.1.cell 1 (by omega)
  obtain ⟨z2, y2⟩ := H4.out.2.1.cell 2 (by omega)
  obtain ⟨z3, y3⟩ := H4.out.2.1.cell 3 (by omega)
  go_wp2
  obtain ⟨r0, r1, r2, r3⟩ := four_at H4.out.2.1 (.slice (some ⟨b, 0, none⟩) L.length c) (.string s1) (.string s2) (.string s3)
  refine bodyPost_ret (v := .agg #[.slice (some ⟨b, 0, none⟩) L.length c, .string s1, .string s2, .string s3]) (by simp only [results, Tryd.results36]; simp [go_sem, r0, r1, r2, r3]) rfl ⟨⟨b, c, ⟨L, s1, s2, s3⟩, rfl, ?_, ?_, by show L.length ≤ 10; omega, hs1, hs2, hs3⟩, ?_⟩
  · exact ints_four H4.out.2.2.2.2.1 (by have := H4.out.2.2.2.2.2; omega) _ _ _ _
  · have h1 := H4.out.2.2.2.1
    have h2 := H4.out.2.2.2.2.2
    omega
  · exact H4.out.1.four (by have := H4.out.2.2.2.1; omega) H4.out.2.2.1 _ _ _ _

end Go.Proofs.YtfmidkdpclfffaaDoor
