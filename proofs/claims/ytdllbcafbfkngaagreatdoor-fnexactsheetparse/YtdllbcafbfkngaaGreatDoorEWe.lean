/-
  Sheets: the words of a line: the specification.
-/
import Derived.Test.YtdllbcafbfkngaaGreatDoorRgF
import Derived.Test.YtdllbcafbfkngaaGreatDoorEBy
import Derived.Test.YtdllbcafbfkngaaGreatDoorEWb
import Derived.Test.YtdllbcafbfkngaaGreatDoorEPw
import Derived.Test.YtdllbcafbfkngaaGreatDoorETx
import Derived.Test.YtdllbcafbfkngaaGreatDoorECs
namespace Go.Proofs.YtdllbcafbfkngaaGreatDoor
open Go.RowKit Go.Deep
namespace RY

theorem region_finC {P : Program} {id : Nat} {Q : Exit → Act → World → Prop} {a0 : Act} {w : World} {l : List Oper} (v : World) (hv : Below v.heap.size v w) (V : Nat → Value → World → Prop) (hVm : ∀ j u W W', Below W.heap.size W W' → V j u W → V j u W') (K : Value → World → Prop) (n fuel kL kA : Nat)
    (hm : P.follows .mixedOrders = true) (hasc : asc .any l.toArray = true) (hap : apartB l = true) (hpl : plainB l a0.tmps.size = true)
    (hclo : ((List.range n).all fun i => (clo l fuel [n]).contains i) = true) (hlen : l.length = n + 2) (hds : (l.all fun o => o.dst.isSome) = true)
    (oL oA : Oper) (hL : l[n]? = some oL) (hLd : oL.dst = some kL) (hA : l[n + 1]? = some oA) (hAd : oA.dst = some kA) (hAo : oA.op = .assign (.tmp kL)) (hAw : waits l (n + 1) n = true)
    (hop : ∀ (i : Nat) (o : Oper), l[i]? = some o → i < n → ∀ (a : Act) (W : World), Below v.heap.size v W → (∀ k, (∀ (j : Nat) (o' : Oper), l[j]? = some o' → o'.dst = some k → n ≤ j) → a.eval (.tmp k) = a0.eval (.tmp k)) →
      (∀ (j : Nat) (o' : Oper) (k : Nat), l[j]? = some o' → o'.dst = some k → (∃ e ∈ o.after, e.on = j ∧ Region.binds .any e = true) → j < n → V j (a.eval (.tmp k)) W) →
      (∃ u W', (execOp a.eval o).run P W = .ok (.value u) W' ∧ Below W.heap.size W W' ∧ V i u W') ∨ (∃ f args, (execOp a.eval o).run P W = .ok (.enter f args) W ∧ Calls P f args W fun e W' => ∃ u, e = .returned u ∧ Below W.heap.size W W' ∧ V i u W'))
    (hfin : ∀ (a : Act) (W : World), Below v.heap.size v W → (∀ k, (∀ (j : Nat) (o' : Oper), l[j]? = some o' → o'.dst = some k → n ≤ j) → a.eval (.tmp k) = a0.eval (.tmp k)) →
      (∀ (j : Nat) (o' : Oper) (k : Nat), l[j]? = some o' → o'.dst = some k → (∃ e ∈ oL.after, e.on = j ∧ Region.binds .any e = true) → j < n → V j (a.eval (.tmp k)) W) →
      ∃ u W', (execOp a.eval oL).run P W = .ok (.value u) W' ∧ K u W')
    (hend : ∀ (vs : Nat → Value) (W : World), K (vs kL) W → vs kA = vs kL → Q .normal (putAll l a0 vs) W) :
    (Code.region id l.toArray true).wp P Q a0 w := by
  have hdst : ∀ {i : Nat} {o : Oper}, l[i]? = some o → o.dst.isSome = true := fun h => by
    rw [List.all_eq_true] at hds
    exact hds _ (List.mem_of_getElem? h)
  refine region_TO (fun _ _ => True) (fun up vals W => (up n = false → up (n + 1) = false ∧ Below v.heap.size v W ∧ ∀ j, j < n → up j = true → V j (vals j) W) ∧ (up n = true → K (vals n) W) ∧ (up (n + 1) = true → vals (n + 1) = vals n)) hm hasc hap hpl ?_ ?_ ?_
  · intro vals
    exact ⟨fun _ => ⟨rfl, Below.drew hv, fun _ _ h => (by cases h)⟩, fun h => (by cases h), fun h => (by cases h)⟩
  · intro up vals i o ho hi hcl a W hk hd hT
    have hall : up n = true → ∀ j, j < n → up j = true := fun hn j hj => by
      rw [List.all_eq_true] at hclo
      have := hclo j (List.mem_range.2 hj)
      rw [List.contains_iff_mem] at this
      exact clo_up hcl fuel [n] (by simpa using hn) j this
    have hil : i < n + 2 := by rw [← hlen]; exact (List.getElem?_eq_some_iff.1 ho).1
    by_cases h1 : i < n
    · have hn : up n = false := by
        cases e : up n
        · rfl
        · rw [hall e i h1] at hi; cases hi
      obtain ⟨hn1, hB, hV⟩ := hT.1 hn
      have hop' := hop i o ho h1 a W hB (fun k hkk => hk k fun j o' hj hj' => by
          have := hkk j o' hj hj'
          have hjl : j < n + 2 := by rw [← hlen]; exact (List.getElem?_eq_some_iff.1 hj).1
          by_cases e : j = n
          · rw [e]; exact hn
          · have : j = n + 1 := by omega
            rw [this]; exact hn1)
        (fun j o' k hj hk' hdep hjn => by
          obtain ⟨q1, q2, _⟩ := hd j o' k hj hk' hdep
          rw [q2]; exact hV j hjn q1)
      have stp : ∀ u W', Below W.heap.size W W' → V i u W' → (((fun j => (j == i) || up j) n = false → (fun j => (j == i) || up j) (n + 1) = false ∧ Below v.heap.size v W' ∧ ∀ j, j < n → (fun j => (j == i) || up j) j = true → V j ((fun j => if j = i then u else vals j) j) W') ∧ ((fun j => (j == i) || up j) n = true → K ((fun j => if j = i then u else vals j) n) W') ∧ ((fun j => (j == i) || up j) (n + 1) = true → (fun j => if j = i then u else vals j) (n + 1) = (fun j => if j = i then u else vals j) n)) := by
        intro u W' hb hu
        refine ⟨fun _ => ⟨?_, blw_trans hB hb, fun j hj hup => ?_⟩, fun h => ?_, fun h => ?_⟩
        · simp [hn1]; omega
        · by_cases e : j = i
          · subst e; dsimp only; rw [if_pos rfl]; exact hu
          · dsimp only; rw [if_neg e]
            have : up j = true := by simpa [e] using hup
            exact hVm _ _ _ _ hb (hV j hj this)
        · have : up n = true := by have : n ≠ i := by omega
                                   simpa [this] using h
          rw [hn] at this; cases this
        · have : up (n + 1) = true := by have : n + 1 ≠ i := by omega
                                         simpa [this] using h
          rw [hn1] at this; cases this
      rcases hop' with ⟨u, W', hr, hb, hu⟩ | ⟨f, args, hr, hc⟩
      · exact Or.inl ⟨u, W', hr, hdst ho, trivial, stp u W' hb hu⟩
      · exact Or.inr (Or.inr ⟨f, args, hr, hdst ho, hc.mono fun e W' ⟨u, he, hb, hu⟩ => ⟨u, he, trivial, stp u W' hb hu⟩⟩)
    · by_cases h2 : i = n
      · subst h2
        obtain ⟨hn1, hB, hV⟩ := hT.1 hi
        obtain rfl : o = oL := Option.some.inj (ho.symm.trans hL)
        obtain ⟨u, W', hr, hK⟩ := hfin a W hB (fun k hkk => hk k fun j o' hj hj' => by
            have := hkk j o' hj hj'
            have hjl : j < i + 2 := by rw [← hlen]; exact (List.getElem?_eq_some_iff.1 hj).1
            by_cases e : j = i
            · rw [e]; exact hi
            · have : j = i + 1 := by omega
              rw [this]; exact hn1)
          (fun j o' k hj hk' hdep hjn => by
            obtain ⟨q1, q2, _⟩ := hd j o' k hj hk' hdep
            rw [q2]; exact hV j hjn q1)
        refine Or.inl ⟨u, W', hr, hdst ho, trivial, ⟨fun h => by simp at h, fun _ => by dsimp only; rw [if_pos rfl]; exact hK, fun h => ?_⟩⟩
        have : up (i + 1) = true := by simpa using h
        rw [hn1] at this; cases this
      · have h3 : i = n + 1 := by omega
        subst h3
        obtain rfl : o = oA := Option.some.inj (ho.symm.trans hA)
        obtain ⟨q1, q2, _⟩ := hd n oL kL hL hLd (by obtain ⟨e, he, h4, h5⟩ := waits_spec hAw hA; exact ⟨e, he, h4, h5⟩)
        refine Or.inl ⟨vals n, W, ?_, hdst ho, trivial, ⟨fun h => ?_, fun h => ?_, fun _ => ?_⟩⟩
        · rw [← q2]; simp [execOp, hAo]
        · dsimp only at h; rw [q1] at h; simp at h
        · have : n ≠ n + 1 := by omega
          dsimp only; rw [if_neg this]; exact hT.2.1 q1
        · have : n ≠ n + 1 := by omega
          dsimp only; rw [if_pos rfl, if_neg this]
  · intro up vals vs W hup hvs hT
    have h1 := hvs n oL kL hL hLd
    have h2 := hvs (n + 1) oA kA hA hAd
    have u1 := hup n (by omega)
    have u2 := hup (n + 1) (by omega)
    refine hend vs W ?_ ?_
    · rw [h1.1]; exact hT.2.1 u1
    · rw [h1.1, h2.1]; exact hT.2.2 u2
end RY
end Go.Proofs.YtdllbcafbfkngaaGreatDoor

namespace Go.Proofs.YtdllbcafbfkngaaGreatDoor
open Go.RowKit Go.Deep

set_option maxHeartbeats 1000000 in
theorem l37Hex_any (c : UInt8) (w : World) :
    Calls Tryz.prog 43 #[.int .u8 c.toNat] w fun e w' => e = .returned (.int .i64 (Pl.hexV c)) ∧ w = w' := by
  have h8 := Pl.u8lt c
  by_cases h1 : 48 ≤ c.toNat ∧ c.toNat ≤ 57
  · have HE : Hid ((c.toNat : Int) - 48 = Pl.hexV c) := by show _ = _; rw [Pl.hexV, if_pos h1]
    obtain ⟨a1, a2⟩ := h1
    go_enter Tryz.func43, Tryz.ntmps43
    go_wp2
    go_ret
    exact ⟨Pl.ret_int (by first | exact HE.out | (rw [← HE.out]; go_num)), rfl⟩
  by_cases h2 : 97 ≤ c.toNat ∧ c.toNat ≤ 102
  · have HE : Hid ((c.toNat : Int) - 87 = Pl.hexV c) := by show _ = _; rw [Pl.hexV, if_neg h1, if_pos h2]
    obtain ⟨a1, a2⟩ := h2
    have a3 : ¬ c.toNat ≤ 57 := by omega
    go_enter Tryz.func43, Tryz.ntmps43
    go_wp2
    go_ret
    exact ⟨Pl.ret_int (by first | exact HE.out | (rw [← HE.out]; go_num)), rfl⟩
  have HE : Hid (-1 = Pl.hexV c) := by show _ = _; rw [Pl.hexV, if_neg h1, if_neg h2]
  by_cases b1 : 48 ≤ c.toNat
  all_goals by_cases b2 : 97 ≤ c.toNat
  all_goals first | (exfalso; omega) | skip
  all_goals
    (try have b3 : ¬ c.toNat ≤ 57 := by omega)
    (try have b4 : ¬ c.toNat ≤ 102 := by omega)
    clear h1 h2
    go_enter Tryz.func43, Tryz.ntmps43
    go_wp2
    go_ret
    exact ⟨Pl.ret_int HE.out, rfl⟩

end Go.Proofs.YtdllbcafbfkngaaGreatDoor

namespace Go.Proofs.YtdllbcafbfkngaaGreatDoor
open Go.RowKit Go.Deep

theorem strRun (s : ByteArray) (n : Nat) (i : Int) (hi : i = (n : Int)) (h : n < s.size) (w : World) : (Instr.index 9 (.string s) (.int .i64 i)).run Tryz.prog w = .ok (.int .u8 (s[n].toNat : Int)) w := by
  subst hi
  rw [run_index_string w 9 _ .i64 (n : Int) (by kernel_rfl), dif_pos ⟨by omega, by omega⟩]
  simp only [Int.toNat_natCast]
theorem ret_si {a b : ByteArray} {c d : Int} (h : a = b) (g : c = d) : Ending.returned (.tuple #[.string a, .int .i64 c]) = .returned (.tuple #[.string b, .int .i64 d]) := by rw [h, g]
def VEqo (va : Value) (s : ByteArray) (k : Nat) (b1 b2 z : UInt8) : Nat → Value → World → Prop
  | 0, u, _ => u = va
  | 1, u, _ => u = .string s
  | 2, u, _ => u = .int .i64 (k : Int)
  | 3, u, _ => u = .int .i64 ((k : Int) + 1)
  | 4, u, _ => u = .int .u8 (b1.toNat : Int)
  | 5, u, _ => u = .int .i64 (Pl.hexV b1)
  | 6, u, _ => u = .int .i64 (16 * Pl.hexV b1)
  | 7, u, _ => u = .string s
  | 8, u, _ => u = .int .i64 (k : Int)
  | 9, u, _ => u = .int .i64 ((k : Int) + 2)
  | 10, u, _ => u = .int .u8 (b2.toNat : Int)
  | 11, u, _ => u = .int .i64 (Pl.hexV b2)
  | 12, u, _ => u = .int .i64 (16 * Pl.hexV b1 + Pl.hexV b2)
  | 13, u, _ => u = .int .u8 (z.toNat : Int)
  | 14, u, W => ∃ B, u = .slice (some ⟨B, 0, none⟩) 1 1 ∧ W.heap[B]? = some (.cells #[.int .u8 (z.toNat : Int)] 5 (0, 0))
  | _, _, _ => True
theorem VEqo_mono (va : Value) (s : ByteArray) (k : Nat) (b1 b2 z : UInt8) : ∀ j u W W', Below W.heap.size W W' → VEqo va s k b1 b2 z j u W → VEqo va s k b1 b2 z j u W' := by
  intro j u W W' hb h
  match j with
  | 0 => exact h
  | 1 => exact h
  | 2 => exact h
  | 3 => exact h
  | 4 => exact h
  | 5 => exact h
  | 6 => exact h
  | 7 => exact h
  | 8 => exact h
  | 9 => exact h
  | 10 => exact h
  | 11 => exact h
  | 12 => exact h
  | 13 => exact h
  | 14 =>
    obtain ⟨B, e, hB⟩ := h
    exact ⟨B, e, (hb.block B (Array.getElem?_eq_some_iff.1 hB).1).trans hB⟩
  | n + 15 => exact trivial

set_option maxRecDepth 8000 in
set_option maxHeartbeats 4000000 in
theorem l37QuotedS (s : ByteArray) (w : World) (hs : s.size ≤ 1048576) :
    Calls Tryz.prog 21 #[.string s] w fun e w' => e = .returned (.tuple #[.string ⟨(Pl.quoT s.data.toList).1.toArray⟩, .int .i64 ((Pl.quoT s.data.toList).2 : Int)]) ∧ Below w.heap.size w w' := by
  go_enter Tryz.func21, Tryz.ntmps21
  go_wp2
  go_loopw [4, 5] (fun v i wr => ∃ (k : Nat) (O : List UInt8), k ≤ s.size ∧ i = .int .i64 k ∧ By wr w.heap.size v O ∧ O.length ≤ k ∧ Below w.heap.size w wr ∧ Pl.quoL s.data.toList = (Pl.quoL (s.data.toList.drop k)).map fun p => (O ++ p.1, k + p.2)) (fun _ i _ => s.size - (intOf i).toNat)
  case atStart => exact ⟨0, [], Nat.zero_le _, rfl, By.emp w w.heap.size (Nat.le_refl _), Nat.le_refl _, blw_alloc (Below.refl _ _) _, by simp⟩
  case round =>
    rename_i v _ _
    obtain ⟨k, O, hk, rfl, hO, hll, hW, hX⟩ := hrel
    have HLL := uh hll
    have HO := uh hO
    have HW := uh hW
    have HX := uh hX
    obtain ⟨sa, sc, hv⟩ := hO.shape
    subst hv
    clear hO hW hll hX
    by_cases hlt : k < s.size
    rotate_left
    · obtain rfl : k = s.size := by omega
      have HR : Hid (Pl.quoT s.data.toList = ([], 0)) := by show _ = _; rw [Pl.quoT, HX.out, Pl.quoE]; rfl
      go_wp2
      go_ret2
      exact ⟨ret_si (by first | (rw [HR.out]; rfl) | rw [HR.out]) (by first | (rw [HR.out]; rfl) | rw [HR.out]), HW.out⟩
    have HB8 := uh (Pl.u8lt s[k])
    by_cases c1 : s[k].toNat = 34
    · have HR : Hid (Pl.quoT s.data.toList = (O, k + 1)) := by show _ = _; rw [Pl.quoT, HX.out, Pl.quo34 s k hlt c1]; simp
      have d1 : ((s[k].toNat : Int) == 34) = true := by simp; omega
      have hcv := HO.out.str_any
      clear c1
      go_wp2
      go_ret2
      exact ⟨ret_si (by rw [HR.out]) (by rw [HR.out]; simp), HW.out⟩
    have d1 : ((s[k].toNat : Int) == 34) = false := by simp; omega
    by_cases c2 : s[k].toNat = 92
    · have d2 : ((s[k].toNat : Int) == 92) = true := by simp; omega
      by_cases h2 : k + 2 < s.size
      rotate_left
      · have HR : Hid (Pl.quoT s.data.toList = ([], 0)) := by show _ = _; rw [Pl.quoT, HX.out, Pl.quo92n s k hlt c2 h2]; rfl
        have d3 : (s.size : Int) ≤ (k : Int) + 2 := by omega
        have k2 : IntKind.i64.wrap ((k : Int) + 2) = (k : Int) + 2 := IntWalk.i64_in _ ⟨by omega, by omega⟩
        clear c1 c2 h2
        go_wp2
        go_ret2
        exact ⟨ret_si (by first | (rw [HR.out]; rfl) | rw [HR.out]) (by first | (rw [HR.out]; rfl) | rw [HR.out]), HW.out⟩
      have HXX := uh (fun (h1 : Pl.hexV s[k + 1] < 0 ∨ Pl.hexV s[k + 2] < 0) => Pl.quo92x s k hlt c2 h2 h1)
      have HXY := uh (fun y1 y2 => Pl.quo92 s k hlt c2 h2 y1 y2)
      have HI1 := uh (fun w => strRun s (k + 1) ((k : Int) + 1) (by omega) (by omega) w)
      have HI2 := uh (fun w => strRun s (k + 2) ((k : Int) + 2) (by omega) h2 w)
      obtain ⟨b1, hb1⟩ : ∃ b, b = s[k + 1] := ⟨_, rfl⟩
      obtain ⟨b2, hb2⟩ : ∃ b, b = s[k + 2] := ⟨_, rfl⟩
      rw [← hb1] at HXX HXY HI1
      rw [← hb2] at HXX HXY HI2
      have g1 := Pl.hexV_bd b1
      have g2 := Pl.hexV_bd b2
      clear hb1 hb2
      have d3 : ¬ (s.size : Int) ≤ (k : Int) + 2 := by omega
      have HK1 : Hid (IntKind.i64.wrap ((k : Int) + 1) = (k : Int) + 1) := IntWalk.i64_in _ ⟨by omega, by omega⟩
      have HK2 : Hid (IntKind.i64.wrap ((k : Int) + 2) = (k : Int) + 2) := IntWalk.i64_in _ ⟨by omega, by omega⟩
      have i1 := HI1.out
      have i2 := HI2.out
      have k1 := HK1.out
      have k2 := HK2.out
      clear c1 c2
      by_cases p1 : Pl.hexV b1 < 0
      · have HR : Hid (Pl.quoT s.data.toList = ([], 0)) := by show _ = _; rw [Pl.quoT, HX.out, HXX.out (Or.inl p1)]; rfl
        clear g1 g2
        go_wp2_with (go_at_call 43; refine (l37Hex_any _ _).mono ?_; rintro e w' ⟨rfl, rfl⟩)
        go_ret2
        exact ⟨ret_si (by first | (rw [HR.out]; rfl) | rw [HR.out]) (by first | (rw [HR.out]; rfl) | rw [HR.out]), HW.out⟩
      by_cases p2 : Pl.hexV b2 < 0
      · have HR : Hid (Pl.quoT s.data.toList = ([], 0)) := by show _ = _; rw [Pl.quoT, HX.out, HXX.out (Or.inr p2)]; rfl
        clear g1 g2
        go_wp2_with (go_at_call 43; refine (l37Hex_any _ _).mono ?_; rintro e w' ⟨rfl, rfl⟩)
        go_ret2
        exact ⟨ret_si (by first | (rw [HR.out]; rfl) | rw [HR.out]) (by first | (rw [HR.out]; rfl) | rw [HR.out]), HW.out⟩
      obtain ⟨z, hz⟩ : ∃ z, z = UInt8.ofNat (16 * Pl.hexV b1 + Pl.hexV b2).toNat := ⟨_, rfl⟩
      have HNX := uh (Pl.quoC HX.out (HXY.out (by omega) (by omega)))
      rw [← hz] at HNX
      have HM1 : Hid (IntKind.i64.wrap (16 * Pl.hexV b1) = 16 * Pl.hexV b1) := IntWalk.i64_in _ ⟨by omega, by omega⟩
      have HM2 : Hid (IntKind.i64.wrap (16 * Pl.hexV b1 + Pl.hexV b2) = 16 * Pl.hexV b1 + Pl.hexV b2) := IntWalk.i64_in _ ⟨by omega, by omega⟩
      have HM3 : Hid (IntKind.u8.wrap (16 * Pl.hexV b1 + Pl.hexV b2) = (z.toNat : Int)) := by show _ = _; rw [wrap_byte _ (by omega) (by omega), hz, UInt8.toNat_ofNat']; omega
      clear hz g1 g2
      go_upto_region 11 with (go_at_call 43; refine (l37Hex_any _ _).mono ?_; rintro e w' ⟨rfl, rfl⟩)
      clear i1 i2 k1 k2
      refine RY.region_finC wr (Below.refl _ _) (VEqo (.slice sa O.length sc) s k b1 b2 z) (VEqo_mono _ _ _ _ _ _) (fun u W' => ∃ g cap, u = .slice (some ⟨g, 0, none⟩) (O.length + 1) cap ∧ By W' w.heap.size u (O ++ [z]) ∧ Below w.heap.size w W') 15 12 63 4 (by kernel_rfl) (by kernel_rfl) (by kernel_rfl) (by kernel_rfl) (by kernel_rfl) rfl (by kernel_rfl) _ _ rfl rfl rfl rfl rfl (by kernel_rfl) ?_ ?_ ?_
      · intro i o' ho hin a X hX hk hd
        match i, ho with
        | 0, ho =>
          injection ho with ho; subst ho
          have e4 : a.tmps[4]?.getD undef = .slice sa O.length sc := (RY.ev_tmp a 4).trans ((hk 4 (RY.late_spec (by kernel_rfl))).trans rfl)
          exact Or.inl ⟨.slice sa O.length sc, X, by simp [execOp, go_sem, e4], Below.refl _ _, rfl⟩
        | 1, ho =>
          injection ho with ho; subst ho
          have e0 : a.tmps[0]?.getD undef = .string s := (RY.ev_tmp a 0).trans ((hk 0 (RY.late_spec (by kernel_rfl))).trans rfl)
          exact Or.inl ⟨.string s, X, by simp [execOp, go_sem, e0], Below.refl _ _, rfl⟩
        | 2, ho =>
          injection ho with ho; subst ho
          have e5 : a.tmps[5]?.getD undef = .int .i64 (k : Int) := (RY.ev_tmp a 5).trans ((hk 5 (RY.late_spec (by kernel_rfl))).trans rfl)
          exact Or.inl ⟨.int .i64 (k : Int), X, by simp [execOp, go_sem, e5], Below.refl _ _, rfl⟩
        | 3, ho =>
          injection ho with ho; subst ho
          have e50 : a.tmps[50]?.getD undef = _ := (RY.ev_tmp a 50).trans (hd 2 _ 50 rfl rfl ⟨⟨2, .data⟩, by simp, rfl, rfl⟩ (by decide))
          exact Or.inl ⟨.int .i64 ((k : Int) + 1), X, by simp [execOp, go_sem, e50, HK1.out], Below.refl _ _, rfl⟩
        | 4, ho =>
          injection ho with ho; subst ho
          have e49 : a.tmps[49]?.getD undef = _ := (RY.ev_tmp a 49).trans (hd 1 _ 49 rfl rfl ⟨⟨1, .data⟩, by simp, rfl, rfl⟩ (by decide))
          have e51 : a.tmps[51]?.getD undef = _ := (RY.ev_tmp a 51).trans (hd 3 _ 51 rfl rfl ⟨⟨3, .data⟩, by simp, rfl, rfl⟩ (by decide))
          exact Or.inl ⟨.int .u8 (b1.toNat : Int), X, by simp [execOp, go_sem, e49, e51, HI1.out X], Below.refl _ _, rfl⟩
        | 5, ho =>
          injection ho with ho; subst ho
          have e52 : a.tmps[52]?.getD undef = _ := (RY.ev_tmp a 52).trans (hd 4 _ 52 rfl rfl ⟨⟨4, .data⟩, by simp, rfl, rfl⟩ (by decide))
          refine Or.inr ⟨43, #[.int .u8 (b1.toNat : Int)], by simp [go_sem, e52], (l37Hex_any b1 X).mono ?_⟩
          rintro e W' ⟨rfl, rfl⟩
          exact ⟨_, rfl, Below.refl _ _, rfl⟩
        | 6, ho =>
          injection ho with ho; subst ho
          have e53 : a.tmps[53]?.getD undef = _ := (RY.ev_tmp a 53).trans (hd 5 _ 53 rfl rfl ⟨⟨5, .data⟩, by simp, rfl, rfl⟩ (by decide))
          exact Or.inl ⟨.int .i64 (16 * Pl.hexV b1), X, by simp [execOp, go_sem, e53, HM1.out], Below.refl _ _, rfl⟩
        | 7, ho =>
          injection ho with ho; subst ho
          have e0 : a.tmps[0]?.getD undef = .string s := (RY.ev_tmp a 0).trans ((hk 0 (RY.late_spec (by kernel_rfl))).trans rfl)
          exact Or.inl ⟨.string s, X, by simp [execOp, go_sem, e0], Below.refl _ _, rfl⟩
        | 8, ho =>
          injection ho with ho; subst ho
          have e5 : a.tmps[5]?.getD undef = .int .i64 (k : Int) := (RY.ev_tmp a 5).trans ((hk 5 (RY.late_spec (by kernel_rfl))).trans rfl)
          exact Or.inl ⟨.int .i64 (k : Int), X, by simp [execOp, go_sem, e5], Below.refl _ _, rfl⟩
        | 9, ho =>
          injection ho with ho; subst ho
          have e56 : a.tmps[56]?.getD undef = _ := (RY.ev_tmp a 56).trans (hd 8 _ 56 rfl rfl ⟨⟨8, .data⟩, by simp, rfl, rfl⟩ (by decide))
          exact Or.inl ⟨.int .i64 ((k : Int) + 2), X, by simp [execOp, go_sem, e56, HK2.out], Below.refl _ _, rfl⟩
        | 10, ho =>
          injection ho with ho; subst ho
          have e55 : a.tmps[55]?.getD undef = _ := (RY.ev_tmp a 55).trans (hd 7 _ 55 rfl rfl ⟨⟨7, .data⟩, by simp, rfl, rfl⟩ (by decide))
          have e57 : a.tmps[57]?.getD undef = _ := (RY.ev_tmp a 57).trans (hd 9 _ 57 rfl rfl ⟨⟨9, .data⟩, by simp, rfl, rfl⟩ (by decide))
          exact Or.inl ⟨.int .u8 (b2.toNat : Int), X, by simp [execOp, go_sem, e55, e57, HI2.out X], Below.refl _ _, rfl⟩
        | 11, ho =>
          injection ho with ho; subst ho
          have e58 : a.tmps[58]?.getD undef = _ := (RY.ev_tmp a 58).trans (hd 10 _ 58 rfl rfl ⟨⟨10, .data⟩, by simp, rfl, rfl⟩ (by decide))
          refine Or.inr ⟨43, #[.int .u8 (b2.toNat : Int)], by simp [go_sem, e58], (l37Hex_any b2 X).mono ?_⟩
          rintro e W' ⟨rfl, rfl⟩
          exact ⟨_, rfl, Below.refl _ _, rfl⟩
        | 12, ho =>
          injection ho with ho; subst ho
          have e54 : a.tmps[54]?.getD undef = _ := (RY.ev_tmp a 54).trans (hd 6 _ 54 rfl rfl ⟨⟨6, .data⟩, by simp, rfl, rfl⟩ (by decide))
          have e59 : a.tmps[59]?.getD undef = _ := (RY.ev_tmp a 59).trans (hd 11 _ 59 rfl rfl ⟨⟨11, .data⟩, by simp, rfl, rfl⟩ (by decide))
          exact Or.inl ⟨.int .i64 (16 * Pl.hexV b1 + Pl.hexV b2), X, by simp [execOp, go_sem, e54, e59, HM2.out], Below.refl _ _, rfl⟩
        | 13, ho =>
          injection ho with ho; subst ho
          have e60 : a.tmps[60]?.getD undef = _ := (RY.ev_tmp a 60).trans (hd 12 _ 60 rfl rfl ⟨⟨12, .data⟩, by simp, rfl, rfl⟩ (by decide))
          exact Or.inl ⟨.int .u8 (z.toNat : Int), X, by simp [execOp, go_sem, e60, HM3.out], Below.refl _ _, rfl⟩
        | 14, ho =>
          injection ho with ho; subst ho
          have e61 := (RY.ev_tmp a 61).trans (hd 13 _ 61 rfl rfl ⟨⟨13, .data⟩, by simp, rfl, rfl⟩ (by decide))
          exact Or.inl ⟨.slice (some ⟨X.heap.size, 0, none⟩) 1 1, X.alloc (.cells #[.int .u8 (z.toNat : Int)] 5), by simp [execOp, go_sem, e61], blw_alloc (Below.refl _ _) _, X.heap.size, rfl, heap_alloc_new X _⟩
        | n + 15, ho => omega
      · intro a X hX hk hd
        have e48 := hd 0 _ 48 rfl rfl ⟨⟨0, .data⟩, by simp, rfl, rfl⟩ (by decide)
        obtain ⟨B, e62, hB⟩ := hd 14 _ 62 rfl rfl ⟨⟨14, .data⟩, by simp, rfl, rfl⟩ (by decide)
        have hOX := HO.out.later hX
        obtain ⟨g, cap, X', hr, hb1, hb2⟩ := by_run hOX 96 B 1 1 [z] rfl _ rfl hB (by decide) (by have := HLL.out; omega) (Nat.le_trans HW.out.size hX.size)
        exact ⟨_, X', uexec_append (.tmp 48) (.tmp 62) 96 rfl e48 e62 hr, g, cap, rfl, hb1, hOX.below (blw_trans HW.out hX) hb2 (Nat.le_refl _)⟩
      · rintro vals X hK e2
        simp only [RY.putAll, Act.put, List.setIfInBounds_toArray, List.set_cons_zero, List.set_cons_succ]
        rw [e2]
        generalize vals 48 = s48
        generalize vals 49 = s49
        generalize vals 50 = s50
        generalize vals 51 = s51
        generalize vals 52 = s52
        generalize vals 53 = s53
        generalize vals 54 = s54
        generalize vals 55 = s55
        generalize vals 56 = s56
        generalize vals 57 = s57
        generalize vals 58 = s58
        generalize vals 59 = s59
        generalize vals 60 = s60
        generalize vals 61 = s61
        generalize vals 62 = s62
        obtain ⟨g, cap, e1, hg, hb⟩ := hK
        rw [e1] at hg ⊢
        have HN := uh (And.intro hg hb)
        clear hg hb e1 e2 HO HW
        go_wp2
        go_roundw
        case rel => exact ⟨k + 3, O ++ [z], by omega, by go_num, HN.out.1, by rw [List.length_append]; have := HLL.out; simp; omega, HN.out.2, HNX.out⟩
        case measure => simp [intOf]; omega
    have d2 : ((s[k].toNat : Int) == 92) = false := by simp; omega
    by_cases c3 : 32 ≤ s[k].toNat ∧ s[k].toNat ≤ 126
    · have HNX := uh (Pl.quoC HX.out (Pl.quoS s k hlt c1 c2 c3))
      obtain ⟨b, hb⟩ : ∃ b, b = s[k] := ⟨_, rfl⟩
      have hix : s[k] = b := hb.symm
      clear hb
      rw [hix] at HNX d1 d2 c1 c2 c3
      obtain ⟨h1, h2⟩ := c3
      clear c1 c2
      go_wp2_with (refine by_push rfl _ _ rfl w.heap.size (.slice sa O.length sc) O rfl (HO.out.later (blw_alloc (Below.refl _ _) _)) wr.heap.size 1 1 [b] rfl rfl (World.news_of_block (cs := #[.int .u8 (b.toNat : Int)]) (heap_alloc_new wr _)) (by decide) (by have := HLL.out; omega) (by have := HW.out.size; simp; omega) ?_; intro gg1 cc1 w1 q1 q2)
      go_roundw
      case rel => exact ⟨k + 1, O ++ [b], by omega, by go_num, q1, by rw [List.length_append]; have := HLL.out; simp; omega, (HO.out.later (blw_alloc (Below.refl _ _) _)).below (blw_alloc HW.out _) q2 (Nat.le_refl _), HNX.out⟩
      case measure => simp [intOf]; omega
    have HR : Hid (Pl.quoT s.data.toList = ([], 0)) := by show _ = _; rw [Pl.quoT, HX.out, Pl.quoN s k hlt c1 c2 c3]; rfl
    by_cases h1 : 32 ≤ s[k].toNat
    all_goals
      (try have h2 : ¬ s[k].toNat ≤ 126 := fun h => c3 ⟨h1, h⟩)
      clear c1 c2 c3
      go_wp2
      go_ret2
      exact ⟨ret_si (by first | (rw [HR.out]; rfl) | rw [HR.out]) (by first | (rw [HR.out]; rfl) | rw [HR.out]), HW.out⟩

end Go.Proofs.YtdllbcafbfkngaaGreatDoor

namespace Go.Proofs.YtdllbcafbfkngaaGreatDoor
open Go.RowKit Go.Deep

/-- The words of a line as data. -/
def cutD (l : List UInt8) : List Dt := match Pl.cutL l 0 with
  | some ws => [.row ws.length (txD ws), .b false]
  | none => [.row 0 [], .b true]
/-- While a line is cut: the answer's variable, a bad answer, the words so far. -/
structure WC (w wr : World) (v : Value) (ws : List ByteArray) : Prop where
  bel : Below w.heap.size w wr
  res : WBox wr w.heap.size 39 [.slice none 0 0, .bool false]
  bad : WBox wr (w.heap.size + 1) 39 [.slice none 0 0, .bool true]
  out : WBox wr (w.heap.size + 2) 39 [v, .bool false]
  row : TxR wr (w.heap.size + 3) v ws
theorem WC.later {w wr wr' : World} {v : Value} {ws : List ByteArray} (h : WC w wr v ws) (hb : Below wr.heap.size wr wr') : WC w wr' v ws := ⟨blw_trans h.bel hb, h.res.later hb, h.bad.later hb, h.out.later hb, h.row.later hb⟩
theorem ansBad (w : World) (l : List UInt8) (h : Pl.cutL l 0 = none) (we : World) (hb : Below w.heap.size w we) : Ans shSheetCut (cutD l) w (.returned (.agg [.slice none 0 0, .bool true].toArray)) we := by
  rw [cutD, h]
  exact ⟨[.slice none 0 0, .bool true], [], rfl, .emp _ _ none rfl (.b _ .nil), List.nodup_nil, by simp, hb⟩
theorem ansCut (w : World) (l : List UInt8) (ws : List ByteArray) (v : Value) (h : Pl.cutL l 0 = some ws) (we : World) (hb : Below w.heap.size w we) (hr : TxR we (w.heap.size + 3) v ws) : Ans shSheetCut (cutD l) w (.returned (.agg [v, .bool false].toArray)) we := by
  rw [cutD, h]
  obtain ⟨F, h1, h2, h3⟩ := hr.done
  exact ⟨[v, .bool false], F ++ [], rfl, h1.app (.b false .nil), by rw [List.append_nil]; exact h2, fun b hb' => by rw [List.append_nil] at hb'; have := h3 b hb'; omega, hb⟩

theorem WC.grown {w wr w1 : World} {v : Value} {ws : List ByteArray} (h : WC w wr v ws) (hg : wr.grownBy w1 v.ownBlock) : Below w.heap.size w w1 ∧ WBox w1 (w.heap.size + 2) 39 [v, .bool false] ∧ WBox w1 w.heap.size 39 [.slice none 0 0, .bool false] ∧ WBox w1 (w.heap.size + 1) 39 [.slice none 0 0, .bool true] := by
  have hn : ∀ p, p < w.heap.size + 3 → v.ownBlock ≠ some p := fun p hp e => by have := (owns_blk_lt h.row e).1; omega
  exact ⟨h.row.below (lo := w.heap.size + 3) h.bel hg (by omega), h.out.grow hg (hn _ (by omega)), h.res.grow hg (hn _ (by omega)), h.bad.grow hg (hn _ (by omega))⟩
theorem WC.put {w w1 : World} {v v' : Value} {ws : List ByteArray} (hb : Below w.heap.size w w1) (ho : WBox w1 (w.heap.size + 2) 39 [v, .bool false]) (hr : WBox w1 w.heap.size 39 [.slice none 0 0, .bool false]) (hd : WBox w1 (w.heap.size + 1) 39 [.slice none 0 0, .bool true])
    (hx : TxR w1 (w.heap.size + 3) v' ws) : WC w (w1.setCell ⟨w.heap.size + 2, 0, none⟩ v') v' ws :=
  ⟨hb.setCell (p := ⟨w.heap.size + 2, 0, none⟩) (by show w.heap.size ≤ w.heap.size + 2; omega) _, hr.other (by omega) _ _, hd.other (by omega) _ _, ho.set 0 v' (by simp), owns_mks hx (Marks.sc (S := fun b => b = w.heap.size + 2) w1 rfl 0 v') fun b hb e => by omega⟩

set_option maxRecDepth 8000 in
set_option maxHeartbeats 8000000 in
theorem sheetWordsS (s : ByteArray) (w : World) (hs : s.size ≤ 1048576) :
    Calls Tryz.prog 11 #[.string s] w (Ans shSheetCut (cutD s.data.toList) w) := by
  obtain ⟨wa, hwa⟩ : ∃ wa, wa = ((w.alloc (.cells #[.slice none 0 0, .bool false] 39)).alloc (.cells #[.slice none 0 0, .bool true] 39)).alloc (.cells #[.slice none 0 0, .bool false] 39) := ⟨_, rfl⟩
  have H0 : Hid (WC w wa (.slice none 0 0) []) := by
    show WC _ _ _ _
    rw [hwa]
    exact ⟨blw_alloc (blw_alloc (blw_alloc (Below.refl _ _) _) _) _, ((WBox.new w [.slice none 0 0, .bool false] 39 _ rfl).later (blw_alloc (Below.refl _ _) _)).later (blw_alloc (Below.refl _ _) _), (WBox.new (w.alloc (.cells #[.slice none 0 0, .bool false] 39)) [.slice none 0 0, .bool true] 39 _ (by simp)).later (blw_alloc (Below.refl _ _) _), WBox.new _ [.slice none 0 0, .bool false] 39 _ (by simp), TxR.nil _ _⟩
  go_enter Tryz.func11, Tryz.ntmps11
  go_upto_region 3 with fail
  rw [← hwa]
  clear hwa
  go_wp2
  go_loopw [5] (fun i wr => ∃ (k : Nat) (v : Value) (ws : List ByteArray), k ≤ s.size ∧ i = .int .i64 k ∧ WC w wr v ws ∧ ws.length ≤ 8 ∧ Pl.cutL s.data.toList 0 = (Pl.cutL (s.data.toList.drop k) ws.length).map (ws ++ ·)) (fun i _ => s.size - (intOf i).toNat)
  case atStart => exact ⟨0, _, [], Nat.zero_le _, rfl, H0.out, Nat.zero_le _, by simp⟩
  case round =>
    obtain ⟨k, v, ws, hk, rfl, hWC, h8, hCU⟩ := hrel
    have HWC := uh hWC
    have HCU := uh hCU
    obtain ⟨va, vc, hv⟩ := hWC.row.shape
    subst hv
    clear hWC hCU H0
    by_cases hlt : k < s.size
    rotate_left
    · obtain rfl : k = s.size := by omega
      have HNO : Hid (Pl.cutL s.data.toList 0 = some ws) := by show _ = _; rw [HCU.out, List.drop_of_length_le (by rw [Pl.len_data]; exact Nat.le_refl _), Pl.cutL]; simp
      go_upto_region 26 with fail
      have hxa := HWC.out.out.at_
      have hxl := HWC.out.out.own.lt
      have hol := HWC.out.res.own.lt
      have hth : wr.there w.heap.size 0 (#[.slice va ws.length vc, .bool false] : Array Value).size := uthere HWC.out.res.own _ _ (by simp)
      obtain ⟨we, hwe⟩ : ∃ we, we = wr.setCells w.heap.size 0 [.slice va ws.length vc, .bool false] := ⟨_, rfl⟩
      have hrt : we.rangeAt w.heap.size 0 [.slice va ws.length vc, .bool false] := by rw [hwe]; exact World.rangeAt_setCells_same _ _ _ _ hth
      have HBB : Hid (Below w.heap.size w we) := by show Below _ _ _; rw [hwe]; exact blw_scs (Nat.le_refl _) _ _ _ HWC.out.bel
      have HWE : Hid (∀ v l, TxR wr (w.heap.size + 3) v l → TxR we (w.heap.size + 3) v l) := by
        intro v l h; rw [hwe]; exact owns_scs_lo h (by omega) _
      go_wp2_with (first | (refine wpList_load_mid rfl 39 _ rfl (w.heap.size + 2) 0 rfl [.slice va ws.length vc, .bool false] _ hxa Tryz.underlying39 rfl (by kernel_rfl) ?_) | (refine wpList_store_mid rfl 39 _ _ rfl w.heap.size 0 #[.slice va ws.length vc, .bool false] rfl rfl hth (by kernel_rfl) (by simp [Value.oneCell']) ?_))
      first | rw [← hwe] | (simp only [List.toList_toArray]; rw [← hwe])
      try simp only [Act.put]
      refine bodyPost_ret (v := .agg #[.slice va ws.length vc, .bool false]) (by simp [results, Tryz.results11, asAddr, run_loadVar_mid (P := Tryz.prog) _ _ _ 39 [.slice va ws.length vc, .bool false] _ hrt Tryz.underlying39 rfl (by kernel_rfl)]) rfl ?_
      exact ansCut w _ ws _ HNO.out we HBB.out (HWE.out _ _ HWC.out.row)
    rw [Pl.drop_at s k hlt] at HCU
    by_cases c1 : s[k].toNat = 32
    · have d1 : ((s[k].toNat : Int) == 32) = true := by simp; omega
      have HNX : Hid (Pl.cutL s.data.toList 0 = (Pl.cutL (s.data.toList.drop (k + 1)) ws.length).map (ws ++ ·)) := by show _ = _; rw [HCU.out, Pl.cutL, if_pos c1]
      clear c1
      go_wp2
      go_roundw
      case rel => exact ⟨k + 1, _, ws, by omega, by go_num, HWC.out, h8, HNX.out⟩
      case measure => simp [intOf]; omega
    have d1 : ((s[k].toNat : Int) == 32) = false := by simp; omega
    by_cases c2 : s[k].toNat = 35
    · have d2 : ((s[k].toNat : Int) == 35) = true := by simp; omega
      have HNO : Hid (Pl.cutL s.data.toList 0 = some ws) := by show _ = _; rw [HCU.out, Pl.cutL, if_neg c1, if_pos c2]; simp
      clear c1 c2
      go_upto_region 15 with fail
      have hxa := HWC.out.out.at_
      have hxl := HWC.out.out.own.lt
      have hol := HWC.out.res.own.lt
      have hth : wr.there w.heap.size 0 (#[.slice va ws.length vc, .bool false] : Array Value).size := uthere HWC.out.res.own _ _ (by simp)
      obtain ⟨we, hwe⟩ : ∃ we, we = wr.setCells w.heap.size 0 [.slice va ws.length vc, .bool false] := ⟨_, rfl⟩
      have hrt : we.rangeAt w.heap.size 0 [.slice va ws.length vc, .bool false] := by rw [hwe]; exact World.rangeAt_setCells_same _ _ _ _ hth
      have HBB : Hid (Below w.heap.size w we) := by show Below _ _ _; rw [hwe]; exact blw_scs (Nat.le_refl _) _ _ _ HWC.out.bel
      have HWE : Hid (∀ v l, TxR wr (w.heap.size + 3) v l → TxR we (w.heap.size + 3) v l) := by
        intro v l h; rw [hwe]; exact owns_scs_lo h (by omega) _
      go_wp2_with (first | (refine wpList_load_mid rfl 39 _ rfl (w.heap.size + 2) 0 rfl [.slice va ws.length vc, .bool false] _ hxa Tryz.underlying39 rfl (by kernel_rfl) ?_) | (refine wpList_store_mid rfl 39 _ _ rfl w.heap.size 0 #[.slice va ws.length vc, .bool false] rfl rfl hth (by kernel_rfl) (by simp [Value.oneCell']) ?_))
      first | rw [← hwe] | (simp only [List.toList_toArray]; rw [← hwe])
      try simp only [Act.put]
      refine bodyPost_ret (v := .agg #[.slice va ws.length vc, .bool false]) (by simp [results, Tryz.results11, asAddr, run_loadVar_mid (P := Tryz.prog) _ _ _ 39 [.slice va ws.length vc, .bool false] _ hrt Tryz.underlying39 rfl (by kernel_rfl)]) rfl ?_
      exact ansCut w _ ws _ HNO.out we HBB.out (HWE.out _ _ HWC.out.row)
    have d2 : ((s[k].toNat : Int) == 35) = false := by simp; omega
    have HCN := uh (fun (h : Pl.nextW s[k] (s.data.toList.drop (k + 1)) = none) => Pl.cutN (s.data.toList.drop (k + 1)) s[k] ws.length c1 c2 h)
    have HCX := uh (fun x n (h : Pl.nextW s[k] (s.data.toList.drop (k + 1)) = some (x, n)) hb => Pl.cutX (s.data.toList.drop (k + 1)) s[k] ws.length x n c1 c2 h hb)
    have HCY := uh (fun x n (h : Pl.nextW s[k] (s.data.toList.drop (k + 1)) = some (x, n)) hb => Pl.cutY (s.data.toList.drop (k + 1)) s[k] ws.length x n c1 c2 h hb)
    by_cases c3 : s[k].toNat = 34
    · have d3 : ((s[k].toNat : Int) == 34) = true := by simp; omega
      have HNW : Hid (Pl.nextW s[k] (s.data.toList.drop (k + 1)) = Pl.quoL (s.data.toList.drop (k + 1))) := by show _ = _; rw [Pl.nextW, if_pos c3]
      clear c1 c2 c3
      have hexs : (s.extract (k + 1) s.size).size ≤ 1048576 := by rw [ByteArray.size_extract]; omega
      have HCQ := uh (fun W => l37QuotedS (s.extract (k + 1) s.size) W hexs)
      rw [Pl.ext_end] at HCQ
      cases hqq : Pl.quoL (s.data.toList.drop (k + 1)) with
      | none =>
        have HNO : Hid (Pl.cutL s.data.toList 0 = none) := by show _ = _; rw [HCU.out, HCN.out (by rw [HNW.out, hqq])]; rfl
        rw [show Pl.quoT (s.data.toList.drop (k + 1)) = ([], 0) by rw [Pl.quoT, hqq]; rfl] at HCQ
        clear hqq hexs
        go_upto_region 19 with (go_at_call 21; refine (HCQ.out _).mono ?_; rintro e wq ⟨rfl, hb⟩)
        replace HWC := uh (HWC.out.later hb)
        clear hb
        have hxa := HWC.out.bad.at_
        have hxl := HWC.out.bad.own.lt
        have hol := HWC.out.res.own.lt
        have hth : wq.there w.heap.size 0 (#[.slice none 0 0, .bool true] : Array Value).size := uthere HWC.out.res.own _ _ (by simp)
        obtain ⟨we, hwe⟩ : ∃ we, we = wq.setCells w.heap.size 0 [.slice none 0 0, .bool true] := ⟨_, rfl⟩
        have hrt : we.rangeAt w.heap.size 0 [.slice none 0 0, .bool true] := by rw [hwe]; exact World.rangeAt_setCells_same _ _ _ _ hth
        have HBB : Hid (Below w.heap.size w we) := by show Below _ _ _; rw [hwe]; exact blw_scs (Nat.le_refl _) _ _ _ HWC.out.bel
        have HWE : Hid (∀ v l, TxR wq (w.heap.size + 3) v l → TxR we (w.heap.size + 3) v l) := by
          intro v l h; rw [hwe]; exact owns_scs_lo h (by omega) _
        go_wp2_with (first | (refine wpList_load_mid rfl 39 _ rfl (w.heap.size + 1) 0 rfl [.slice none 0 0, .bool true] _ hxa Tryz.underlying39 rfl (by kernel_rfl) ?_) | (refine wpList_store_mid rfl 39 _ _ rfl w.heap.size 0 #[.slice none 0 0, .bool true] rfl rfl hth (by kernel_rfl) (by simp [Value.oneCell']) ?_))
        first | rw [← hwe] | (simp only [List.toList_toArray]; rw [← hwe])
        try simp only [Act.put]
        refine bodyPost_ret (v := .agg #[.slice none 0 0, .bool true]) (by simp [results, Tryz.results11, asAddr, run_loadVar_mid (P := Tryz.prog) _ _ _ 39 [.slice none 0 0, .bool true] _ hrt Tryz.underlying39 rfl (by kernel_rfl)]) rfl ?_
        exact ansBad w _ HNO.out we HBB.out
      | some xn =>
        obtain ⟨x, n⟩ := xn
        have hlen := Pl.quoL_len _ _ (Nat.le_refl _) x n hqq
        rw [Pl.drop_len] at hlen
        obtain ⟨hn1, hn2⟩ := hlen
        rw [show Pl.quoT (s.data.toList.drop (k + 1)) = (x, n) by rw [Pl.quoT, hqq]; rfl] at HCQ
        obtain ⟨p, hp⟩ : ∃ p, p = k + 1 + n := ⟨_, rfl⟩
        obtain ⟨X, hX⟩ : ∃ X : ByteArray, X = ⟨x.toArray⟩ := ⟨_, rfl⟩
        have HXS : Hid (X.size = x.length) := by show _ = _; rw [hX]; simp [ByteArray.size]
        have HXX : Hid ((Pl.behind (s.data.toList.drop p) && decide (X.size ≤ 200) && decide (ws.length < 8)) = false → Pl.cutL (s[k] :: s.data.toList.drop (k + 1)) ws.length = none) := fun h => HCX.out x n (by rw [HNW.out, hqq]) (by rw [List.drop_drop, ← hp, ← HXS.out]; exact h)
        have HYY : Hid ((Pl.behind (s.data.toList.drop p) && decide (X.size ≤ 200) && decide (ws.length < 8)) = true → Pl.cutL (s[k] :: s.data.toList.drop (k + 1)) ws.length = (Pl.cutL (s.data.toList.drop p) (ws.length + 1)).map (X :: ·)) := fun h => by
          have := HCY.out x n (by rw [HNW.out, hqq]) (by rw [List.drop_drop, ← hp, ← HXS.out]; exact h)
          rw [List.drop_drop, ← hp, ← hX] at this; exact this
        rw [← hX] at HCQ
        have HPK : Hid (k < p) := by show k < p; omega
        have e1 : IntKind.i64.wrap ((k : Int) + 1) = (k : Int) + 1 := IntWalk.i64_in _ ⟨by omega, by omega⟩
        have e2 : IntKind.i64.wrap ((k : Int) + 1 + (n : Int)) = (p : Int) := by rw [IntWalk.i64_in _ ⟨by omega, by omega⟩]; omega
        have e3 : ((n : Int) == 0) = false := by simp; omega
        have hps0 : p ≤ s.size := by omega
        clear hqq hexs hn1 hn2 hp hX
        go_upto_region 22 with (go_at_call 21; refine (HCQ.out _).mono ?_; rintro e wq ⟨rfl, hb⟩)
        replace HWC := uh (HWC.out.later hb)
        clear hb e1 e2 e3 HCQ d1 d2 d3
        by_cases hA : Pl.behind (s.data.toList.drop p) = true
        rotate_left
        · have HNO : Hid (Pl.cutL s.data.toList 0 = none) := by show _ = _; rw [HCU.out, HXX.out (by simp [hA])]; rfl
          have hps : p < s.size := by
            rcases Nat.lt_or_ge p s.size with h | h
            · exact h
            · exact absurd (by rw [List.drop_of_length_le (by rw [Pl.len_data]; exact h)]; rfl) hA
          rw [Pl.drop_at s p hps] at hA
          have f1 : ((s[p].toNat : Int) != 32) = true := by simp [Pl.behind] at hA; simp; omega
          have f2 : ((s[p].toNat : Int) != 35) = true := by simp [Pl.behind] at hA; simp; omega
          clear hA
          go_upto_region 23 with fail
          clear f1 f2
          have hxa := HWC.out.bad.at_
          have hxl := HWC.out.bad.own.lt
          have hol := HWC.out.res.own.lt
          have hth : wq.there w.heap.size 0 (#[.slice none 0 0, .bool true] : Array Value).size := uthere HWC.out.res.own _ _ (by simp)
          obtain ⟨we, hwe⟩ : ∃ we, we = wq.setCells w.heap.size 0 [.slice none 0 0, .bool true] := ⟨_, rfl⟩
          have hrt : we.rangeAt w.heap.size 0 [.slice none 0 0, .bool true] := by rw [hwe]; exact World.rangeAt_setCells_same _ _ _ _ hth
          have HBB : Hid (Below w.heap.size w we) := by show Below _ _ _; rw [hwe]; exact blw_scs (Nat.le_refl _) _ _ _ HWC.out.bel
          have HWE : Hid (∀ v l, TxR wq (w.heap.size + 3) v l → TxR we (w.heap.size + 3) v l) := by
            intro v l h; rw [hwe]; exact owns_scs_lo h (by omega) _
          go_wp2_with (first | (refine wpList_load_mid rfl 39 _ rfl (w.heap.size + 1) 0 rfl [.slice none 0 0, .bool true] _ hxa Tryz.underlying39 rfl (by kernel_rfl) ?_) | (refine wpList_store_mid rfl 39 _ _ rfl w.heap.size 0 #[.slice none 0 0, .bool true] rfl rfl hth (by kernel_rfl) (by simp [Value.oneCell']) ?_))
          first | rw [← hwe] | (simp only [List.toList_toArray]; rw [← hwe])
          try simp only [Act.put]
          refine bodyPost_ret (v := .agg #[.slice none 0 0, .bool true]) (by simp [results, Tryz.results11, asAddr, run_loadVar_mid (P := Tryz.prog) _ _ _ 39 [.slice none 0 0, .bool true] _ hrt Tryz.underlying39 rfl (by kernel_rfl)]) rfl ?_
          exact ansBad w _ HNO.out we HBB.out
        have hA3 : (¬ (p : Int) < (s.size : Int)) ∨ (∃ h : p < s.size, (((s[p].toNat : Int) != 32) = false)) ∨ (∃ h : p < s.size, (((s[p].toNat : Int) != 32) = true) ∧ (((s[p].toNat : Int) != 35) = false)) := by
          by_cases h : p < s.size
          · rw [Pl.drop_at s p h] at hA
            simp [Pl.behind] at hA
            by_cases h2 : s[p].toNat = 32
            · exact Or.inr (Or.inl ⟨h, by simp; omega⟩)
            · exact Or.inr (Or.inr ⟨h, by simp; omega, by simp; omega⟩)
          · exact Or.inl (by omega)
        rcases hA3 with f0 | ⟨f0, f1⟩ | ⟨f0, f1, f2⟩
        all_goals
          by_cases hB : (200 : Int) < (X.size : Int)
          · have HNO : Hid (Pl.cutL s.data.toList 0 = none) := by show _ = _; rw [HCU.out, HXX.out (by have := HXS.out; simp; omega)]; rfl
            go_upto_region 23 with fail
            clear hB
            have hxa := HWC.out.bad.at_
            have hxl := HWC.out.bad.own.lt
            have hol := HWC.out.res.own.lt
            have hth : wq.there w.heap.size 0 (#[.slice none 0 0, .bool true] : Array Value).size := uthere HWC.out.res.own _ _ (by simp)
            obtain ⟨we, hwe⟩ : ∃ we, we = wq.setCells w.heap.size 0 [.slice none 0 0, .bool true] := ⟨_, rfl⟩
            have hrt : we.rangeAt w.heap.size 0 [.slice none 0 0, .bool true] := by rw [hwe]; exact World.rangeAt_setCells_same _ _ _ _ hth
            have HBB : Hid (Below w.heap.size w we) := by show Below _ _ _; rw [hwe]; exact blw_scs (Nat.le_refl _) _ _ _ HWC.out.bel
            have HWE : Hid (∀ v l, TxR wq (w.heap.size + 3) v l → TxR we (w.heap.size + 3) v l) := by
              intro v l h; rw [hwe]; exact owns_scs_lo h (by omega) _
            go_wp2_with (first | (refine wpList_load_mid rfl 39 _ rfl (w.heap.size + 1) 0 rfl [.slice none 0 0, .bool true] _ hxa Tryz.underlying39 rfl (by kernel_rfl) ?_) | (refine wpList_store_mid rfl 39 _ _ rfl w.heap.size 0 #[.slice none 0 0, .bool true] rfl rfl hth (by kernel_rfl) (by simp [Value.oneCell']) ?_))
            first | rw [← hwe] | (simp only [List.toList_toArray]; rw [← hwe])
            try simp only [Act.put]
            refine bodyPost_ret (v := .agg #[.slice none 0 0, .bool true]) (by simp [results, Tryz.results11, asAddr, run_loadVar_mid (P := Tryz.prog) _ _ _ 39 [.slice none 0 0, .bool true] _ hrt Tryz.underlying39 rfl (by kernel_rfl)]) rfl ?_
            exact ansBad w _ HNO.out we HBB.out
          have hout := HWC.out.out.get 0 _ rfl
          have houl := HWC.out.out.own.lt
          by_cases hC : (8 : Int) ≤ (ws.length : Int)
          · have HNO : Hid (Pl.cutL s.data.toList 0 = none) := by show _ = _; rw [HCU.out, HXX.out (by simp; omega)]; rfl
            go_upto_region 23 with fail
            clear hB hC hout houl
            have hxa := HWC.out.bad.at_
            have hxl := HWC.out.bad.own.lt
            have hol := HWC.out.res.own.lt
            have hth : wq.there w.heap.size 0 (#[.slice none 0 0, .bool true] : Array Value).size := uthere HWC.out.res.own _ _ (by simp)
            obtain ⟨we, hwe⟩ : ∃ we, we = wq.setCells w.heap.size 0 [.slice none 0 0, .bool true] := ⟨_, rfl⟩
            have hrt : we.rangeAt w.heap.size 0 [.slice none 0 0, .bool true] := by rw [hwe]; exact World.rangeAt_setCells_same _ _ _ _ hth
            have HBB : Hid (Below w.heap.size w we) := by show Below _ _ _; rw [hwe]; exact blw_scs (Nat.le_refl _) _ _ _ HWC.out.bel
            have HWE : Hid (∀ v l, TxR wq (w.heap.size + 3) v l → TxR we (w.heap.size + 3) v l) := by
              intro v l h; rw [hwe]; exact owns_scs_lo h (by omega) _
            go_wp2_with (first | (refine wpList_load_mid rfl 39 _ rfl (w.heap.size + 1) 0 rfl [.slice none 0 0, .bool true] _ hxa Tryz.underlying39 rfl (by kernel_rfl) ?_) | (refine wpList_store_mid rfl 39 _ _ rfl w.heap.size 0 #[.slice none 0 0, .bool true] rfl rfl hth (by kernel_rfl) (by simp [Value.oneCell']) ?_))
            first | rw [← hwe] | (simp only [List.toList_toArray]; rw [← hwe])
            try simp only [Act.put]
            refine bodyPost_ret (v := .agg #[.slice none 0 0, .bool true]) (by simp [results, Tryz.results11, asAddr, run_loadVar_mid (P := Tryz.prog) _ _ _ 39 [.slice none 0 0, .bool true] _ hrt Tryz.underlying39 rfl (by kernel_rfl)]) rfl ?_
            exact ansBad w _ HNO.out we HBB.out
          have HNX : Hid (Pl.cutL s.data.toList 0 = (Pl.cutL (s.data.toList.drop p) (ws ++ [X]).length).map ((ws ++ [X]) ++ ·)) := Pl.cutC HCU.out (HYY.out (by have := HXS.out; simp [hA]; omega))
          have hofz := HWC.out.out.own.frozen
          have hC8 : ws.length < 8 := by omega
          clear hA
          go_upto_region 24 with fail
          clear hB hC
          go_wp2_with (refine tx_push rfl _ _ rfl (w.heap.size + 3) (.slice va ws.length vc) ws rfl (HWC.out.row.later (blw_alloc (Below.refl _ _) _)) wq.heap.size 1 1 [X] rfl rfl (World.news_of_block (cs := #[.string X]) (heap_alloc_new wq _)) (by decide) (by omega) (by have := HWC.out.out.own.lt; simp; omega) ?_; intro gg1 cc1 w1 q1 q2; have HQ := uh (And.intro q1 q2); have HW1 := uh (WC.grown (HWC.out.later (blw_alloc (Below.refl _ _) _)) q2); have hout2 := HW1.out.2.1.get 0 _ rfl; have houl2 := HW1.out.2.1.own.lt; have hofz2 := HW1.out.2.1.own.frozen; clear q1 q2 hout houl hofz)
          go_roundw
          case rel => exact ⟨p, _, ws ++ [X], by omega, rfl, WC.put HW1.out.1 HW1.out.2.1 HW1.out.2.2.1 HW1.out.2.2.2 HQ.out.1, by rw [List.length_append]; simp; omega, HNX.out⟩
          case measure => simp [intOf]; have := HPK.out; omega
    have d3 : ((s[k].toNat : Int) == 34) = false := by simp; omega
    go_upto_region 6 with fail
    go_wp2
    go_loop [7] (fun v => ∃ p : Nat, k ≤ p ∧ p ≤ s.size ∧ v = .int .i64 p ∧ ∀ i (hi : i < s.size), k ≤ i → i < p → Pl.bareB s[i] = true) (fun v => s.size - (intOf v).toNat)
    case atStart => exact ⟨k, Nat.le_refl _, by omega, rfl, fun i hi h1 h2 => by omega⟩
    case round =>
      obtain ⟨p, hkp, hps0, rfl, hall⟩ := hrel
      have HALL : Hid (∀ i (hi : i < s.size), k ≤ i → i < p → Pl.bareB s[i] = true) := hall
      clear hall
      by_cases hst : ∃ h : p < s.size, Pl.bareB s[p] = true
      · obtain ⟨h, hbb⟩ := hst
        go_wp2_with (go_at_call 22; refine (l37Bare_any _ _).mono ?_; rintro e w' ⟨rfl, rfl⟩)
        go_round
        case rel => exact ⟨p + 1, by omega, by omega, by go_num, fun i hi h1 h2 => by
          by_cases e : i = p
          · subst e; exact hbb
          · exact HALL.out i hi h1 (by omega)⟩
        case measure => simp [intOf]; omega
      have HST : Hid (∀ h : p < s.size, Pl.bareB s[p] = false) := fun h => by
        cases e : Pl.bareB s[p]
        · rfl
        · exact absurd ⟨h, e⟩ hst
      clear hst
      have HNB0 := uh (fun h => Pl.nextB0 s k hlt c3 h)
      have HNB := uh (fun h => Pl.nextB s k p hlt c3 h hps0 HALL.out HST.out)
      have g1 : (p : Int) ≤ (s.size : Int) := by omega
      have g2 : (k : Int) ≤ (p : Int) := by omega
      clear c1 c2 c3
      by_cases hpk : k < p
      rotate_left
      · obtain rfl : p = k := by omega
        have hbf := HST.out hlt
        have HNO : Hid (Pl.cutL s.data.toList 0 = none) := by show _ = _; rw [HCU.out, HCN.out (HNB0.out hbf)]; rfl
        go_upto_region 11 with (go_at_call 22; refine (l37Bare_any _ _).mono ?_; rintro e w' ⟨rfl, rfl⟩)
        clear hbf g1 g2
        have hxa := HWC.out.bad.at_
        have hxl := HWC.out.bad.own.lt
        have hol := HWC.out.res.own.lt
        have hth : wr.there w.heap.size 0 (#[.slice none 0 0, .bool true] : Array Value).size := uthere HWC.out.res.own _ _ (by simp)
        obtain ⟨we, hwe⟩ : ∃ we, we = wr.setCells w.heap.size 0 [.slice none 0 0, .bool true] := ⟨_, rfl⟩
        have hrt : we.rangeAt w.heap.size 0 [.slice none 0 0, .bool true] := by rw [hwe]; exact World.rangeAt_setCells_same _ _ _ _ hth
        have HBB : Hid (Below w.heap.size w we) := by show Below _ _ _; rw [hwe]; exact blw_scs (Nat.le_refl _) _ _ _ HWC.out.bel
        have HWE : Hid (∀ v l, TxR wr (w.heap.size + 3) v l → TxR we (w.heap.size + 3) v l) := by
          intro v l h; rw [hwe]; exact owns_scs_lo h (by omega) _
        go_wp2_with (first | (refine wpList_load_mid rfl 39 _ rfl (w.heap.size + 1) 0 rfl [.slice none 0 0, .bool true] _ hxa Tryz.underlying39 rfl (by kernel_rfl) ?_) | (refine wpList_store_mid rfl 39 _ _ rfl w.heap.size 0 #[.slice none 0 0, .bool true] rfl rfl hth (by kernel_rfl) (by simp [Value.oneCell']) ?_))
        first | rw [← hwe] | (simp only [List.toList_toArray]; rw [← hwe])
        try simp only [Act.put]
        refine bodyPost_ret (v := .agg #[.slice none 0 0, .bool true]) (by simp [results, Tryz.results11, asAddr, run_loadVar_mid (P := Tryz.prog) _ _ _ 39 [.slice none 0 0, .bool true] _ hrt Tryz.underlying39 rfl (by kernel_rfl)]) rfl ?_
        exact ansBad w _ HNO.out we HBB.out
      obtain ⟨X, hX⟩ : ∃ X : ByteArray, X = s.extract k p := ⟨_, rfl⟩
      have hxl : X.data.toList.length = p - k := by rw [hX, Pl.ext_list, List.length_take, Pl.drop_len]; omega
      have HXS : Hid (X.size = X.data.toList.length) := by show _ = _; rw [Pl.len_data]
      have hdd : (s.data.toList.drop (k + 1)).drop (p - k - 1) = s.data.toList.drop p := by rw [List.drop_drop]; congr 1; omega
      have HXX : Hid ((Pl.behind (s.data.toList.drop p) && decide (X.size ≤ 200) && decide (ws.length < 8)) = false → Pl.cutL (s[k] :: s.data.toList.drop (k + 1)) ws.length = none) := fun h => HCX.out X.data.toList (p - k - 1) (by rw [hX]; exact HNB.out hpk) (by rw [hdd, ← HXS.out]; exact h)
      have HYY : Hid ((Pl.behind (s.data.toList.drop p) && decide (X.size ≤ 200) && decide (ws.length < 8)) = true → Pl.cutL (s[k] :: s.data.toList.drop (k + 1)) ws.length = (Pl.cutL (s.data.toList.drop p) (ws.length + 1)).map (X :: ·)) := fun h => by
        have := HCY.out X.data.toList (p - k - 1) (by rw [hX]; exact HNB.out hpk) (by rw [hdd, ← HXS.out]; exact h)
        rw [hdd, Pl.back] at this; exact this
      have HPK := uh hpk
      have hne : ((p : Int) == (k : Int)) = false := by simp; omega
      have hxx : s.extract k p = X := hX.symm
      clear hX hxl hdd
      by_cases hpz : p < s.size
      · have hbf := HST.out hpz
        obtain ⟨bp, hbp⟩ : ∃ b, b = s[p] := ⟨_, rfl⟩
        have hix : s[p] = bp := hbp.symm
        rw [hix] at hbf
        clear hbp
        go_upto_region 22 with (go_at_call 22; refine (l37Bare_any _ _).mono ?_; rintro e w' ⟨rfl, rfl⟩)
        clear hbf hix g1 g2 hne hxx d1 d2 d3 HALL HST HNB HNB0 hpz
        by_cases hA : Pl.behind (s.data.toList.drop p) = true
        rotate_left
        · have HNO : Hid (Pl.cutL s.data.toList 0 = none) := by show _ = _; rw [HCU.out, HXX.out (by simp [hA])]; rfl
          have hps : p < s.size := by
            rcases Nat.lt_or_ge p s.size with h | h
            · exact h
            · exact absurd (by rw [List.drop_of_length_le (by rw [Pl.len_data]; exact h)]; rfl) hA
          rw [Pl.drop_at s p hps] at hA
          have f1 : ((s[p].toNat : Int) != 32) = true := by simp [Pl.behind] at hA; simp; omega
          have f2 : ((s[p].toNat : Int) != 35) = true := by simp [Pl.behind] at hA; simp; omega
          clear hA
          go_upto_region 23 with fail
          clear f1 f2
          have hxa := HWC.out.bad.at_
          have hxl := HWC.out.bad.own.lt
          have hol := HWC.out.res.own.lt
          have hth : wr.there w.heap.size 0 (#[.slice none 0 0, .bool true] : Array Value).size := uthere HWC.out.res.own _ _ (by simp)
          obtain ⟨we, hwe⟩ : ∃ we, we = wr.setCells w.heap.size 0 [.slice none 0 0, .bool true] := ⟨_, rfl⟩
          have hrt : we.rangeAt w.heap.size 0 [.slice none 0 0, .bool true] := by rw [hwe]; exact World.rangeAt_setCells_same _ _ _ _ hth
          have HBB : Hid (Below w.heap.size w we) := by show Below _ _ _; rw [hwe]; exact blw_scs (Nat.le_refl _) _ _ _ HWC.out.bel
          have HWE : Hid (∀ v l, TxR wr (w.heap.size + 3) v l → TxR we (w.heap.size + 3) v l) := by
            intro v l h; rw [hwe]; exact owns_scs_lo h (by omega) _
          go_wp2_with (first | (refine wpList_load_mid rfl 39 _ rfl (w.heap.size + 1) 0 rfl [.slice none 0 0, .bool true] _ hxa Tryz.underlying39 rfl (by kernel_rfl) ?_) | (refine wpList_store_mid rfl 39 _ _ rfl w.heap.size 0 #[.slice none 0 0, .bool true] rfl rfl hth (by kernel_rfl) (by simp [Value.oneCell']) ?_))
          first | rw [← hwe] | (simp only [List.toList_toArray]; rw [← hwe])
          try simp only [Act.put]
          refine bodyPost_ret (v := .agg #[.slice none 0 0, .bool true]) (by simp [results, Tryz.results11, asAddr, run_loadVar_mid (P := Tryz.prog) _ _ _ 39 [.slice none 0 0, .bool true] _ hrt Tryz.underlying39 rfl (by kernel_rfl)]) rfl ?_
          exact ansBad w _ HNO.out we HBB.out
        have hA3 : (¬ (p : Int) < (s.size : Int)) ∨ (∃ h : p < s.size, (((s[p].toNat : Int) != 32) = false)) ∨ (∃ h : p < s.size, (((s[p].toNat : Int) != 32) = true) ∧ (((s[p].toNat : Int) != 35) = false)) := by
          by_cases h : p < s.size
          · rw [Pl.drop_at s p h] at hA
            simp [Pl.behind] at hA
            by_cases h2 : s[p].toNat = 32
            · exact Or.inr (Or.inl ⟨h, by simp; omega⟩)
            · exact Or.inr (Or.inr ⟨h, by simp; omega, by simp; omega⟩)
          · exact Or.inl (by omega)
        rcases hA3 with f0 | ⟨f0, f1⟩ | ⟨f0, f1, f2⟩
        all_goals
          by_cases hB : (200 : Int) < (X.size : Int)
          · have HNO : Hid (Pl.cutL s.data.toList 0 = none) := by show _ = _; rw [HCU.out, HXX.out (by have := HXS.out; simp; omega)]; rfl
            go_upto_region 23 with fail
            clear hB
            have hxa := HWC.out.bad.at_
            have hxl := HWC.out.bad.own.lt
            have hol := HWC.out.res.own.lt
            have hth : wr.there w.heap.size 0 (#[.slice none 0 0, .bool true] : Array Value).size := uthere HWC.out.res.own _ _ (by simp)
            obtain ⟨we, hwe⟩ : ∃ we, we = wr.setCells w.heap.size 0 [.slice none 0 0, .bool true] := ⟨_, rfl⟩
            have hrt : we.rangeAt w.heap.size 0 [.slice none 0 0, .bool true] := by rw [hwe]; exact World.rangeAt_setCells_same _ _ _ _ hth
            have HBB : Hid (Below w.heap.size w we) := by show Below _ _ _; rw [hwe]; exact blw_scs (Nat.le_refl _) _ _ _ HWC.out.bel
            have HWE : Hid (∀ v l, TxR wr (w.heap.size + 3) v l → TxR we (w.heap.size + 3) v l) := by
              intro v l h; rw [hwe]; exact owns_scs_lo h (by omega) _
            go_wp2_with (first | (refine wpList_load_mid rfl 39 _ rfl (w.heap.size + 1) 0 rfl [.slice none 0 0, .bool true] _ hxa Tryz.underlying39 rfl (by kernel_rfl) ?_) | (refine wpList_store_mid rfl 39 _ _ rfl w.heap.size 0 #[.slice none 0 0, .bool true] rfl rfl hth (by kernel_rfl) (by simp [Value.oneCell']) ?_))
            first | rw [← hwe] | (simp only [List.toList_toArray]; rw [← hwe])
            try simp only [Act.put]
            refine bodyPost_ret (v := .agg #[.slice none 0 0, .bool true]) (by simp [results, Tryz.results11, asAddr, run_loadVar_mid (P := Tryz.prog) _ _ _ 39 [.slice none 0 0, .bool true] _ hrt Tryz.underlying39 rfl (by kernel_rfl)]) rfl ?_
            exact ansBad w _ HNO.out we HBB.out
          have hout := HWC.out.out.get 0 _ rfl
          have houl := HWC.out.out.own.lt
          by_cases hC : (8 : Int) ≤ (ws.length : Int)
          · have HNO : Hid (Pl.cutL s.data.toList 0 = none) := by show _ = _; rw [HCU.out, HXX.out (by simp; omega)]; rfl
            go_upto_region 23 with fail
            clear hB hC hout houl
            have hxa := HWC.out.bad.at_
            have hxl := HWC.out.bad.own.lt
            have hol := HWC.out.res.own.lt
            have hth : wr.there w.heap.size 0 (#[.slice none 0 0, .bool true] : Array Value).size := uthere HWC.out.res.own _ _ (by simp)
            obtain ⟨we, hwe⟩ : ∃ we, we = wr.setCells w.heap.size 0 [.slice none 0 0, .bool true] := ⟨_, rfl⟩
            have hrt : we.rangeAt w.heap.size 0 [.slice none 0 0, .bool true] := by rw [hwe]; exact World.rangeAt_setCells_same _ _ _ _ hth
            have HBB : Hid (Below w.heap.size w we) := by show Below _ _ _; rw [hwe]; exact blw_scs (Nat.le_refl _) _ _ _ HWC.out.bel
            have HWE : Hid (∀ v l, TxR wr (w.heap.size + 3) v l → TxR we (w.heap.size + 3) v l) := by
              intro v l h; rw [hwe]; exact owns_scs_lo h (by omega) _
            go_wp2_with (first | (refine wpList_load_mid rfl 39 _ rfl (w.heap.size + 1) 0 rfl [.slice none 0 0, .bool true] _ hxa Tryz.underlying39 rfl (by kernel_rfl) ?_) | (refine wpList_store_mid rfl 39 _ _ rfl w.heap.size 0 #[.slice none 0 0, .bool true] rfl rfl hth (by kernel_rfl) (by simp [Value.oneCell']) ?_))
            first | rw [← hwe] | (simp only [List.toList_toArray]; rw [← hwe])
            try simp only [Act.put]
            refine bodyPost_ret (v := .agg #[.slice none 0 0, .bool true]) (by simp [results, Tryz.results11, asAddr, run_loadVar_mid (P := Tryz.prog) _ _ _ 39 [.slice none 0 0, .bool true] _ hrt Tryz.underlying39 rfl (by kernel_rfl)]) rfl ?_
            exact ansBad w _ HNO.out we HBB.out
          have HNX : Hid (Pl.cutL s.data.toList 0 = (Pl.cutL (s.data.toList.drop p) (ws ++ [X]).length).map ((ws ++ [X]) ++ ·)) := Pl.cutC HCU.out (HYY.out (by have := HXS.out; simp [hA]; omega))
          have hofz := HWC.out.out.own.frozen
          have hC8 : ws.length < 8 := by omega
          clear hA
          go_upto_region 24 with fail
          clear hB hC
          go_wp2_with (refine tx_push rfl _ _ rfl (w.heap.size + 3) (.slice va ws.length vc) ws rfl (HWC.out.row.later (blw_alloc (Below.refl _ _) _)) wr.heap.size 1 1 [X] rfl rfl (World.news_of_block (cs := #[.string X]) (heap_alloc_new wr _)) (by decide) (by omega) (by have := HWC.out.out.own.lt; simp; omega) ?_; intro gg1 cc1 w1 q1 q2; have HQ := uh (And.intro q1 q2); have HW1 := uh (WC.grown (HWC.out.later (blw_alloc (Below.refl _ _) _)) q2); have hout2 := HW1.out.2.1.get 0 _ rfl; have houl2 := HW1.out.2.1.own.lt; have hofz2 := HW1.out.2.1.own.frozen; clear q1 q2 hout houl hofz)
          go_roundw
          case rel => exact ⟨p, _, ws ++ [X], by omega, rfl, WC.put HW1.out.1 HW1.out.2.1 HW1.out.2.2.1 HW1.out.2.2.2 HQ.out.1, by rw [List.length_append]; simp; omega, HNX.out⟩
          case measure => simp [intOf]; have := HPK.out; omega
      · go_upto_region 22 with fail
        clear g1 g2 hne hxx d1 d2 d3 HALL HST HNB HNB0 hpz
        by_cases hA : Pl.behind (s.data.toList.drop p) = true
        rotate_left
        · have HNO : Hid (Pl.cutL s.data.toList 0 = none) := by show _ = _; rw [HCU.out, HXX.out (by simp [hA])]; rfl
          have hps : p < s.size := by
            rcases Nat.lt_or_ge p s.size with h | h
            · exact h
            · exact absurd (by rw [List.drop_of_length_le (by rw [Pl.len_data]; exact h)]; rfl) hA
          rw [Pl.drop_at s p hps] at hA
          have f1 : ((s[p].toNat : Int) != 32) = true := by simp [Pl.behind] at hA; simp; omega
          have f2 : ((s[p].toNat : Int) != 35) = true := by simp [Pl.behind] at hA; simp; omega
          clear hA
          go_upto_region 23 with fail
          clear f1 f2
          have hxa := HWC.out.bad.at_
          have hxl := HWC.out.bad.own.lt
          have hol := HWC.out.res.own.lt
          have hth : wr.there w.heap.size 0 (#[.slice none 0 0, .bool true] : Array Value).size := uthere HWC.out.res.own _ _ (by simp)
          obtain ⟨we, hwe⟩ : ∃ we, we = wr.setCells w.heap.size 0 [.slice none 0 0, .bool true] := ⟨_, rfl⟩
          have hrt : we.rangeAt w.heap.size 0 [.slice none 0 0, .bool true] := by rw [hwe]; exact World.rangeAt_setCells_same _ _ _ _ hth
          have HBB : Hid (Below w.heap.size w we) := by show Below _ _ _; rw [hwe]; exact blw_scs (Nat.le_refl _) _ _ _ HWC.out.bel
          have HWE : Hid (∀ v l, TxR wr (w.heap.size + 3) v l → TxR we (w.heap.size + 3) v l) := by
            intro v l h; rw [hwe]; exact owns_scs_lo h (by omega) _
          go_wp2_with (first | (refine wpList_load_mid rfl 39 _ rfl (w.heap.size + 1) 0 rfl [.slice none 0 0, .bool true] _ hxa Tryz.underlying39 rfl (by kernel_rfl) ?_) | (refine wpList_store_mid rfl 39 _ _ rfl w.heap.size 0 #[.slice none 0 0, .bool true] rfl rfl hth (by kernel_rfl) (by simp [Value.oneCell']) ?_))
          first | rw [← hwe] | (simp only [List.toList_toArray]; rw [← hwe])
          try simp only [Act.put]
          refine bodyPost_ret (v := .agg #[.slice none 0 0, .bool true]) (by simp [results, Tryz.results11, asAddr, run_loadVar_mid (P := Tryz.prog) _ _ _ 39 [.slice none 0 0, .bool true] _ hrt Tryz.underlying39 rfl (by kernel_rfl)]) rfl ?_
          exact ansBad w _ HNO.out we HBB.out
        have hA3 : (¬ (p : Int) < (s.size : Int)) ∨ (∃ h : p < s.size, (((s[p].toNat : Int) != 32) = false)) ∨ (∃ h : p < s.size, (((s[p].toNat : Int) != 32) = true) ∧ (((s[p].toNat : Int) != 35) = false)) := by
          by_cases h : p < s.size
          · rw [Pl.drop_at s p h] at hA
            simp [Pl.behind] at hA
            by_cases h2 : s[p].toNat = 32
            · exact Or.inr (Or.inl ⟨h, by simp; omega⟩)
            · exact Or.inr (Or.inr ⟨h, by simp; omega, by simp; omega⟩)
          · exact Or.inl (by omega)
        rcases hA3 with f0 | ⟨f0, f1⟩ | ⟨f0, f1, f2⟩
        all_goals
          by_cases hB : (200 : Int) < (X.size : Int)
          · have HNO : Hid (Pl.cutL s.data.toList 0 = none) := by show _ = _; rw [HCU.out, HXX.out (by have := HXS.out; simp; omega)]; rfl
            go_upto_region 23 with fail
            clear hB
            have hxa := HWC.out.bad.at_
            have hxl := HWC.out.bad.own.lt
            have hol := HWC.out.res.own.lt
            have hth : wr.there w.heap.size 0 (#[.slice none 0 0, .bool true] : Array Value).size := uthere HWC.out.res.own _ _ (by simp)
            obtain ⟨we, hwe⟩ : ∃ we, we = wr.setCells w.heap.size 0 [.slice none 0 0, .bool true] := ⟨_, rfl⟩
            have hrt : we.rangeAt w.heap.size 0 [.slice none 0 0, .bool true] := by rw [hwe]; exact World.rangeAt_setCells_same _ _ _ _ hth
            have HBB : Hid (Below w.heap.size w we) := by show Below _ _ _; rw [hwe]; exact blw_scs (Nat.le_refl _) _ _ _ HWC.out.bel
            have HWE : Hid (∀ v l, TxR wr (w.heap.size + 3) v l → TxR we (w.heap.size + 3) v l) := by
              intro v l h; rw [hwe]; exact owns_scs_lo h (by omega) _
            go_wp2_with (first | (refine wpList_load_mid rfl 39 _ rfl (w.heap.size + 1) 0 rfl [.slice none 0 0, .bool true] _ hxa Tryz.underlying39 rfl (by kernel_rfl) ?_) | (refine wpList_store_mid rfl 39 _ _ rfl w.heap.size 0 #[.slice none 0 0, .bool true] rfl rfl hth (by kernel_rfl) (by simp [Value.oneCell']) ?_))
            first | rw [← hwe] | (simp only [List.toList_toArray]; rw [← hwe])
            try simp only [Act.put]
            refine bodyPost_ret (v := .agg #[.slice none 0 0, .bool true]) (by simp [results, Tryz.results11, asAddr, run_loadVar_mid (P := Tryz.prog) _ _ _ 39 [.slice none 0 0, .bool true] _ hrt Tryz.underlying39 rfl (by kernel_rfl)]) rfl ?_
            exact ansBad w _ HNO.out we HBB.out
          have hout := HWC.out.out.get 0 _ rfl
          have houl := HWC.out.out.own.lt
          by_cases hC : (8 : Int) ≤ (ws.length : Int)
          · have HNO : Hid (Pl.cutL s.data.toList 0 = none) := by show _ = _; rw [HCU.out, HXX.out (by simp; omega)]; rfl
            go_upto_region 23 with fail
            clear hB hC hout houl
            have hxa := HWC.out.bad.at_
            have hxl := HWC.out.bad.own.lt
            have hol := HWC.out.res.own.lt
            have hth : wr.there w.heap.size 0 (#[.slice none 0 0, .bool true] : Array Value).size := uthere HWC.out.res.own _ _ (by simp)
            obtain ⟨we, hwe⟩ : ∃ we, we = wr.setCells w.heap.size 0 [.slice none 0 0, .bool true] := ⟨_, rfl⟩
            have hrt : we.rangeAt w.heap.size 0 [.slice none 0 0, .bool true] := by rw [hwe]; exact World.rangeAt_setCells_same _ _ _ _ hth
            have HBB : Hid (Below w.heap.size w we) := by show Below _ _ _; rw [hwe]; exact blw_scs (Nat.le_refl _) _ _ _ HWC.out.bel
            have HWE : Hid (∀ v l, TxR wr (w.heap.size + 3) v l → TxR we (w.heap.size + 3) v l) := by
              intro v l h; rw [hwe]; exact owns_scs_lo h (by omega) _
            go_wp2_with (first | (refine wpList_load_mid rfl 39 _ rfl (w.heap.size + 1) 0 rfl [.slice none 0 0, .bool true] _ hxa Tryz.underlying39 rfl (by kernel_rfl) ?_) | (refine wpList_store_mid rfl 39 _ _ rfl w.heap.size 0 #[.slice none 0 0, .bool true] rfl rfl hth (by kernel_rfl) (by simp [Value.oneCell']) ?_))
            first | rw [← hwe] | (simp only [List.toList_toArray]; rw [← hwe])
            try simp only [Act.put]
            refine bodyPost_ret (v := .agg #[.slice none 0 0, .bool true]) (by simp [results, Tryz.results11, asAddr, run_loadVar_mid (P := Tryz.prog) _ _ _ 39 [.slice none 0 0, .bool true] _ hrt Tryz.underlying39 rfl (by kernel_rfl)]) rfl ?_
            exact ansBad w _ HNO.out we HBB.out
          have HNX : Hid (Pl.cutL s.data.toList 0 = (Pl.cutL (s.data.toList.drop p) (ws ++ [X]).length).map ((ws ++ [X]) ++ ·)) := Pl.cutC HCU.out (HYY.out (by have := HXS.out; simp [hA]; omega))
          have hofz := HWC.out.out.own.frozen
          have hC8 : ws.length < 8 := by omega
          clear hA
          go_upto_region 24 with fail
          clear hB hC
          go_wp2_with (refine tx_push rfl _ _ rfl (w.heap.size + 3) (.slice va ws.length vc) ws rfl (HWC.out.row.later (blw_alloc (Below.refl _ _) _)) wr.heap.size 1 1 [X] rfl rfl (World.news_of_block (cs := #[.string X]) (heap_alloc_new wr _)) (by decide) (by omega) (by have := HWC.out.out.own.lt; simp; omega) ?_; intro gg1 cc1 w1 q1 q2; have HQ := uh (And.intro q1 q2); have HW1 := uh (WC.grown (HWC.out.later (blw_alloc (Below.refl _ _) _)) q2); have hout2 := HW1.out.2.1.get 0 _ rfl; have houl2 := HW1.out.2.1.own.lt; have hofz2 := HW1.out.2.1.own.frozen; clear q1 q2 hout houl hofz)
          go_roundw
          case rel => exact ⟨p, _, ws ++ [X], by omega, rfl, WC.put HW1.out.1 HW1.out.2.1 HW1.out.2.2.1 HW1.out.2.2.2 HQ.out.1, by rw [List.length_append]; simp; omega, HNX.out⟩
          case measure => simp [intOf]; have := HPK.out; omega

end Go.Proofs.YtdllbcafbfkngaaGreatDoor
