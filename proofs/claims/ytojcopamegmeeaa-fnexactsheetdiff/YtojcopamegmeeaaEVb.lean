/-
  Sheets: the differences of two blocks: the specification.
-/
import Derived.Test.YtojcopamegmeeaaEVp
import Derived.Test.YtojcopamegmeeaaELa
import Derived.Test.YtojcopamegmeeaaEVs
import Derived.Test.YtojcopamegmeeaaEGa
import Derived.Test.YtojcopamegmeeaaERu
import Derived.Test.YtojcopamegmeeaaEFp
import Derived.Test.YtojcopamegmeeaaRgG
import Derived.Test.YtojcopamegmeeaaEOp
namespace Go.Proofs.Ytojcopamegmeeaa
open Go.RowKit Go.Deep

def VWsa (p : Nat) (o : Nat) (p2 : Nat) (o2 : Nat) (n : Nat) (ac : Nat) (bc : Nat) (k : Nat) (x : Pl.Ln) (y : Pl.Ln) : Nat → Value → World → Prop
  | 0, vv, _ => vv = .slice (some ⟨p, o, none⟩) n ac
  | 1, vv, _ => vv = .int .i64 (k : Int)
  | 2, vv, _ => vv = .pointer (some ⟨p, o + k * 2, none⟩)
  | 3, vv, _ => vv = .pointer (some ⟨p, o + k * 2, none⟩)
  | 4, vv, _ => vv = .string x.key
  | 5, vv, _ => vv = .slice (some ⟨p2, o2, none⟩) n bc
  | 6, vv, _ => vv = .int .i64 (k : Int)
  | 7, vv, _ => vv = .pointer (some ⟨p2, o2 + k * 2, none⟩)
  | 8, vv, _ => vv = .pointer (some ⟨p2, o2 + k * 2, none⟩)
  | 9, vv, _ => vv = .string y.key
  | 10, vv, _ => vv = .bool true
  | 11, vv, _ => vv = .bool true
  | 12, vv, _ => vv = undef
  | 13, vv, _ => vv = undef
  | 14, vv, _ => vv = undef
  | 15, vv, _ => vv = undef
  | 16, vv, _ => vv = undef
  | 17, vv, _ => vv = undef
  | 18, vv, _ => vv = undef
  | 19, vv, _ => vv = undef
  | 20, vv, _ => vv = undef
  | 21, vv, _ => vv = undef
  | 22, vv, _ => vv = undef
  | 23, vv, _ => vv = undef
  | 24, vv, _ => vv = .bool true
  | _, _, _ => True
theorem VWsa_mono (p : Nat) (o : Nat) (p2 : Nat) (o2 : Nat) (n : Nat) (ac : Nat) (bc : Nat) (k : Nat) (x : Pl.Ln) (y : Pl.Ln) : ∀ jj vv W W', Below W.heap.size W W' → VWsa p o p2 o2 n ac bc k x y jj vv W → VWsa p o p2 o2 n ac bc k x y jj vv W' := by
  intro jj vv W W' hb h
  match jj with
  | 0 => exact h
  | 1 => exact h
  | 2 => exact h
  | 3 => exact h
  | 4 => exact h
  | 5 => exact h
  | 6 => exact h
  | 7 => exact h
  | 8 => exact h
  | 9 => exact h
  | 10 => exact h
  | 11 => exact h
  | 12 => exact h
  | 13 => exact h
  | 14 => exact h
  | 15 => exact h
  | 16 => exact h
  | 17 => exact h
  | 18 => exact h
  | 19 => exact h
  | 20 => exact h
  | 21 => exact h
  | 22 => exact h
  | 23 => exact h
  | 24 => exact h
  | n + 25 => exact trivial
def VWsb (p : Nat) (o : Nat) (p2 : Nat) (o2 : Nat) (n : Nat) (ac : Nat) (bc : Nat) (k : Nat) (x : Pl.Ln) (y : Pl.Ln) (xa : Option Addr) (ya : Option Addr) (xc : Nat) (yc : Nat) (wq : Bool) : Nat → Value → World → Prop
  | 0, vv, _ => vv = .slice (some ⟨p, o, none⟩) n ac
  | 1, vv, _ => vv = .int .i64 (k : Int)
  | 2, vv, _ => vv = .pointer (some ⟨p, o + k * 2, none⟩)
  | 3, vv, _ => vv = .pointer (some ⟨p, o + k * 2, none⟩)
  | 4, vv, _ => vv = .string x.key
  | 5, vv, _ => vv = .slice (some ⟨p2, o2, none⟩) n bc
  | 6, vv, _ => vv = .int .i64 (k : Int)
  | 7, vv, _ => vv = .pointer (some ⟨p2, o2 + k * 2, none⟩)
  | 8, vv, _ => vv = .pointer (some ⟨p2, o2 + k * 2, none⟩)
  | 9, vv, _ => vv = .string y.key
  | 10, vv, _ => vv = .bool false
  | 11, vv, _ => vv = .bool false
  | 12, vv, _ => vv = .slice (some ⟨p, o, none⟩) n ac
  | 13, vv, _ => vv = .int .i64 (k : Int)
  | 14, vv, _ => vv = .pointer (some ⟨p, o + k * 2, none⟩)
  | 15, vv, _ => vv = .pointer (some ⟨p, o + k * 2 + 1, none⟩)
  | 16, vv, _ => vv = .slice xa x.ws.length xc
  | 17, vv, _ => vv = .slice (some ⟨p2, o2, none⟩) n bc
  | 18, vv, _ => vv = .int .i64 (k : Int)
  | 19, vv, _ => vv = .pointer (some ⟨p2, o2 + k * 2, none⟩)
  | 20, vv, _ => vv = .pointer (some ⟨p2, o2 + k * 2 + 1, none⟩)
  | 21, vv, _ => vv = .slice ya y.ws.length yc
  | 22, vv, _ => vv = .bool wq
  | 23, vv, _ => vv = .bool (!wq)
  | 24, vv, _ => vv = .bool (!wq)
  | _, _, _ => True
theorem VWsb_mono (p : Nat) (o : Nat) (p2 : Nat) (o2 : Nat) (n : Nat) (ac : Nat) (bc : Nat) (k : Nat) (x : Pl.Ln) (y : Pl.Ln) (xa : Option Addr) (ya : Option Addr) (xc : Nat) (yc : Nat) (wq : Bool) : ∀ jj vv W W', Below W.heap.size W W' → VWsb p o p2 o2 n ac bc k x y xa ya xc yc wq jj vv W → VWsb p o p2 o2 n ac bc k x y xa ya xc yc wq jj vv W' := by
  intro jj vv W W' hb h
  match jj with
  | 0 => exact h
  | 1 => exact h
  | 2 => exact h
  | 3 => exact h
  | 4 => exact h
  | 5 => exact h
  | 6 => exact h
  | 7 => exact h
  | 8 => exact h
  | 9 => exact h
  | 10 => exact h
  | 11 => exact h
  | 12 => exact h
  | 13 => exact h
  | 14 => exact h
  | 15 => exact h
  | 16 => exact h
  | 17 => exact h
  | 18 => exact h
  | 19 => exact h
  | 20 => exact h
  | 21 => exact h
  | 22 => exact h
  | 23 => exact h
  | 24 => exact h
  | n + 25 => exact trivial
set_option maxRecDepth 8000 in
set_option maxHeartbeats 16000000 in
theorem l43SameS (a b : List Pl.Ln) (va vb : Value) (w : World) (ha : Raw w shLns [lnsD a] [va]) (hb : Raw w shLns [lnsD b] [vb]) :
    Calls Try.prog 33 #[va, vb] w fun e w' => e = .returned (.bool (Pl.sameLns a b)) ∧ Below w.heap.size w w' := by
  obtain ⟨aa, ac, rfl⟩ := ha.len0
  obtain ⟨ab, bc, rfl⟩ := hb.len0
  obtain ⟨R, hR⟩ : ∃ R, R = Pl.sameLns a b := ⟨_, rfl⟩
  have HR : Hid (R = Pl.sameLns a b) := hR
  rw [← hR]
  clear hR
  by_cases hlen : a.length = b.length
  rotate_left
  · have hne : ((a.length : Int) != (b.length : Int)) = true := by simp; omega
    have HE : Hid (R = false) := HR.out.trans (Pl.same_len a b hlen)
    clear hlen ha hb
    go_enter Try.func33, Try.ntmps33
    go_wp2
    go_ret
    exact ⟨Pl.ret_bool HE.out.symm, Below.refl _ _⟩
  have HA := uh ha
  have HB := uh hb
  obtain ⟨n, hn⟩ : ∃ n, n = a.length := ⟨_, rfl⟩
  have hm : b.length = n := by omega
  rw [← hn, hm]
  have HN : Hid (n = a.length ∧ n = b.length) := ⟨hn, hm.symm⟩
  have hnm : n ≤ maxLen := by
    rcases lns_open ha with h | ⟨_, _, _, _, _, h, _⟩
    · omega
    · omega
  unfold maxLen at hnm
  have hne0 : ((n : Int) != (n : Int)) = false := by simp
  clear ha hb hn hm hlen
  go_enter Try.func33, Try.ntmps33
  go_wp2
  go_loopw [5] (fun i wr => ∃ k : Nat, k ≤ n ∧ i = .int .i64 k ∧ Hid (R = Pl.sameLns (a.drop k) (b.drop k)) ∧ Below w.heap.size w wr) (fun i _ => n - (intOf i).toNat)
  case atStart => exact ⟨0, Nat.zero_le _, rfl, HR, Below.refl _ _⟩
  case round =>
    obtain ⟨k, hk, rfl, HI, hB⟩ := hrel
    have HBW := uh hB
    clear hB
    by_cases hlt : k < n
    rotate_left
    · obtain rfl : k = n := by omega
      have HE : Hid (R = true) := by show R = _; rw [HI.out, List.drop_of_length_le (by have := HN.out.1; omega), List.drop_of_length_le (by have := HN.out.2; omega)]; rfl
      go_wp2
      go_ret
      exact ⟨Pl.ret_bool HE.out.symm, HBW.out⟩
    have hkA : k < a.length := by have := HN.out.1; omega
    have hkB : k < b.length := by have := HN.out.2; omega
    rcases lns_open (HA.out.later HBW.out) with ⟨e0, _⟩ | ⟨p, o, c, hv, hp, _, hopen⟩
    · omega
    rw [← HN.out.1] at hv
    injection hv with g1 _ g3
    subst g1; subst g3
    rcases lns_open (HB.out.later HBW.out) with ⟨e0, _⟩ | ⟨p2, o2, c2, hv2, hp2, _, hopen2⟩
    · omega
    rw [← HN.out.2] at hv2
    injection hv2 with k1 _ k3
    subst k1; subst k3
    obtain ⟨xa, xc, hgx, hrx⟩ := hopen k hkA
    obtain ⟨ya, yc, hgy, hry⟩ := hopen2 k hkB
    have HS := uh (Pl.same_at hkA hkB)
    obtain ⟨x, hx⟩ : ∃ x, x = a.getD k Pl.lnNo := ⟨_, rfl⟩
    obtain ⟨y, hy⟩ : ∃ y, y = b.getD k Pl.lnNo := ⟨_, rfl⟩
    rw [← hx] at HS hgx hrx
    rw [← hy] at HS hgy hry
    have HGX := uh hgx
    have HGY := uh hgy
    have HPX := uh hp
    have HPY := uh hp2
    obtain ⟨wq, hwq⟩ : ∃ wq, wq = Pl.wordsEq x.ws y.ws := ⟨_, rfl⟩
    have HCW : Hid (∀ X, Below wr.heap.size wr X → Calls Try.prog 54 #[.slice xa x.ws.length xc, .slice ya y.ws.length yc] X fun e w' => e = .returned (.bool wq) ∧ Below X.heap.size X w') := fun X hX => by rw [hwq]; exact l39WordsS x.ws y.ws _ _ X (hrx.later hX) (hry.later hX)
    rw [← hwq] at HS
    have hk0 : (0 : Int) ≤ (k : Int) := by omega
    have hkn : (k : Int) < (n : Int) := by omega
    clear hx hy hgx hgy hrx hry hp hp2 hopen hopen2 hwq
    go_upto_region 6 with fail
    cases hne : (x.key.toList == y.key.toList)
    · have HE : Hid (R = false) := by show R = _; rw [HI.out, HS.out, hne]; rfl
      refine RY.region_pastG wr (Below.refl _ _) (VWsa p o p2 o2 n ac bc k x y) (VWsa_mono _ _ _ _ _ _ _ _ _ _) (by kernel_rfl) (by kernel_rfl) (by kernel_rfl) (by kernel_rfl) ?_ ?_
      · intro ii o' ho a X hX hk hd
        match ii, ho with
        | 0, ho =>
          injection ho with ho; subst ho
          have e0 : a.tmps[0]?.getD undef = .slice (some ⟨p, o, none⟩) n ac := (RY.ev_tmp a 0).trans ((hk 0 (by kernel_rfl)).trans rfl)
          exact Or.inl ⟨RY.wanted_no rfl, Or.inl ⟨.slice (some ⟨p, o, none⟩) n ac, X, by simp [execOp, go_sem, e0], Below.refl _ _, rfl⟩⟩
        | 1, ho =>
          injection ho with ho; subst ho
          have e5 : a.tmps[5]?.getD undef = .int .i64 (k : Int) := (RY.ev_tmp a 5).trans ((hk 5 (by kernel_rfl)).trans rfl)
          exact Or.inl ⟨RY.wanted_no rfl, Or.inl ⟨.int .i64 (k : Int), X, by simp [execOp, go_sem, e5], Below.refl _ _, rfl⟩⟩
        | 2, ho =>
          injection ho with ho; subst ho
          have e17 : a.tmps[17]?.getD undef = .slice (some ⟨p, o, none⟩) n ac := (RY.ev_tmp a 17).trans (hd 0 _ 17 rfl rfl ⟨⟨0, .data⟩, by simp, rfl, rfl⟩)
          have e18 : a.tmps[18]?.getD undef = .int .i64 (k : Int) := (RY.ev_tmp a 18).trans (hd 1 _ 18 rfl rfl ⟨⟨1, .data⟩, by simp, rfl, rfl⟩)
          exact Or.inl ⟨RY.wanted_no rfl, Or.inl ⟨.pointer (some ⟨p, o + k * 2, none⟩), X, by simp [execOp, go_sem, e17, e18, hk0, hkn], Below.refl _ _, rfl⟩⟩
        | 3, ho =>
          injection ho with ho; subst ho
          have e19 : a.tmps[19]?.getD undef = .pointer (some ⟨p, o + k * 2, none⟩) := (RY.ev_tmp a 19).trans (hd 2 _ 19 rfl rfl ⟨⟨2, .data⟩, by simp, rfl, rfl⟩)
          exact Or.inl ⟨RY.wanted_no rfl, Or.inl ⟨.pointer (some ⟨p, o + k * 2, none⟩), X, by simp [execOp, go_sem, e19], Below.refl _ _, rfl⟩⟩
        | 4, ho =>
          injection ho with ho; subst ho
          have e20 : a.tmps[20]?.getD undef = .pointer (some ⟨p, o + k * 2, none⟩) := (RY.ev_tmp a 20).trans (hd 3 _ 20 rfl rfl ⟨⟨3, .data⟩, by simp, rfl, rfl⟩)
          have ypl_ := Nat.lt_of_lt_of_le HPX.out hX.size
          have ycl_ : X.cell? ⟨p, o + k * 2, none⟩ = some (.string x.key) := by have q := rA_get (rA_later HGX.out HPX.out hX) 0 _ rfl; simpa using q
          exact Or.inl ⟨RY.wanted_no rfl, Or.inl ⟨.string x.key, X, by simp [execOp, go_sem, e20, ycl_], Below.refl _ _, rfl⟩⟩
        | 5, ho =>
          injection ho with ho; subst ho
          have e1 : a.tmps[1]?.getD undef = .slice (some ⟨p2, o2, none⟩) n bc := (RY.ev_tmp a 1).trans ((hk 1 (by kernel_rfl)).trans rfl)
          exact Or.inl ⟨RY.wanted_no rfl, Or.inl ⟨.slice (some ⟨p2, o2, none⟩) n bc, X, by simp [execOp, go_sem, e1], Below.refl _ _, rfl⟩⟩
        | 6, ho =>
          injection ho with ho; subst ho
          have e5 : a.tmps[5]?.getD undef = .int .i64 (k : Int) := (RY.ev_tmp a 5).trans ((hk 5 (by kernel_rfl)).trans rfl)
          exact Or.inl ⟨RY.wanted_no rfl, Or.inl ⟨.int .i64 (k : Int), X, by simp [execOp, go_sem, e5], Below.refl _ _, rfl⟩⟩
        | 7, ho =>
          injection ho with ho; subst ho
          have e22 : a.tmps[22]?.getD undef = .slice (some ⟨p2, o2, none⟩) n bc := (RY.ev_tmp a 22).trans (hd 5 _ 22 rfl rfl ⟨⟨5, .data⟩, by simp, rfl, rfl⟩)
          have e23 : a.tmps[23]?.getD undef = .int .i64 (k : Int) := (RY.ev_tmp a 23).trans (hd 6 _ 23 rfl rfl ⟨⟨6, .data⟩, by simp, rfl, rfl⟩)
          exact Or.inl ⟨RY.wanted_no rfl, Or.inl ⟨.pointer (some ⟨p2, o2 + k * 2, none⟩), X, by simp [execOp, go_sem, e22, e23, hk0, hkn], Below.refl _ _, rfl⟩⟩
        | 8, ho =>
          injection ho with ho; subst ho
          have e24 : a.tmps[24]?.getD undef = .pointer (some ⟨p2, o2 + k * 2, none⟩) := (RY.ev_tmp a 24).trans (hd 7 _ 24 rfl rfl ⟨⟨7, .data⟩, by simp, rfl, rfl⟩)
          exact Or.inl ⟨RY.wanted_no rfl, Or.inl ⟨.pointer (some ⟨p2, o2 + k * 2, none⟩), X, by simp [execOp, go_sem, e24], Below.refl _ _, rfl⟩⟩
        | 9, ho =>
          injection ho with ho; subst ho
          have e25 : a.tmps[25]?.getD undef = .pointer (some ⟨p2, o2 + k * 2, none⟩) := (RY.ev_tmp a 25).trans (hd 8 _ 25 rfl rfl ⟨⟨8, .data⟩, by simp, rfl, rfl⟩)
          have ypl_ := Nat.lt_of_lt_of_le HPY.out hX.size
          have ycl_ : X.cell? ⟨p2, o2 + k * 2, none⟩ = some (.string y.key) := by have q := rA_get (rA_later HGY.out HPY.out hX) 0 _ rfl; simpa using q
          exact Or.inl ⟨RY.wanted_no rfl, Or.inl ⟨.string y.key, X, by simp [execOp, go_sem, e25, ycl_], Below.refl _ _, rfl⟩⟩
        | 10, ho =>
          injection ho with ho; subst ho
          have e21 : a.tmps[21]?.getD undef = .string x.key := (RY.ev_tmp a 21).trans (hd 4 _ 21 rfl rfl ⟨⟨4, .data⟩, by simp, rfl, rfl⟩)
          have e26 : a.tmps[26]?.getD undef = .string y.key := (RY.ev_tmp a 26).trans (hd 9 _ 26 rfl rfl ⟨⟨9, .data⟩, by simp, rfl, rfl⟩)
          exact Or.inl ⟨RY.wanted_no rfl, Or.inl ⟨.bool true, X, by simp [execOp, go_sem, e21, e26, hne], Below.refl _ _, rfl⟩⟩
        | 11, ho =>
          injection ho with ho; subst ho
          have e27 : a.tmps[27]?.getD undef = .bool true := (RY.ev_tmp a 27).trans (hd 10 _ 27 rfl rfl ⟨⟨10, .data⟩, by simp, rfl, rfl⟩)
          exact Or.inl ⟨RY.wanted_no rfl, Or.inl ⟨.bool true, X, by simp [execOp, go_sem, e27], Below.refl _ _, rfl⟩⟩
        | 12, ho =>
          injection ho with ho; subst ho
          have gd := hd 11 _ 28 rfl rfl ⟨⟨11, .guard⟩, by simp, rfl, rfl⟩
          exact Or.inr ⟨(RY.wanted_at rfl rfl rfl gd).trans rfl, rfl⟩
        | 13, ho =>
          injection ho with ho; subst ho
          have gd := hd 11 _ 28 rfl rfl ⟨⟨11, .guard⟩, by simp, rfl, rfl⟩
          exact Or.inr ⟨(RY.wanted_at rfl rfl rfl gd).trans rfl, rfl⟩
        | 14, ho =>
          injection ho with ho; subst ho
          have gd := hd 11 _ 28 rfl rfl ⟨⟨11, .guard⟩, by simp, rfl, rfl⟩
          exact Or.inr ⟨(RY.wanted_at rfl rfl rfl gd).trans rfl, rfl⟩
        | 15, ho =>
          injection ho with ho; subst ho
          have gd := hd 11 _ 28 rfl rfl ⟨⟨11, .guard⟩, by simp, rfl, rfl⟩
          exact Or.inr ⟨(RY.wanted_at rfl rfl rfl gd).trans rfl, rfl⟩
        | 16, ho =>
          injection ho with ho; subst ho
          have gd := hd 11 _ 28 rfl rfl ⟨⟨11, .guard⟩, by simp, rfl, rfl⟩
          exact Or.inr ⟨(RY.wanted_at rfl rfl rfl gd).trans rfl, rfl⟩
        | 17, ho =>
          injection ho with ho; subst ho
          have gd := hd 11 _ 28 rfl rfl ⟨⟨11, .guard⟩, by simp, rfl, rfl⟩
          exact Or.inr ⟨(RY.wanted_at rfl rfl rfl gd).trans rfl, rfl⟩
        | 18, ho =>
          injection ho with ho; subst ho
          have gd := hd 11 _ 28 rfl rfl ⟨⟨11, .guard⟩, by simp, rfl, rfl⟩
          exact Or.inr ⟨(RY.wanted_at rfl rfl rfl gd).trans rfl, rfl⟩
        | 19, ho =>
          injection ho with ho; subst ho
          have gd := hd 11 _ 28 rfl rfl ⟨⟨11, .guard⟩, by simp, rfl, rfl⟩
          exact Or.inr ⟨(RY.wanted_at rfl rfl rfl gd).trans rfl, rfl⟩
        | 20, ho =>
          injection ho with ho; subst ho
          have gd := hd 11 _ 28 rfl rfl ⟨⟨11, .guard⟩, by simp, rfl, rfl⟩
          exact Or.inr ⟨(RY.wanted_at rfl rfl rfl gd).trans rfl, rfl⟩
        | 21, ho =>
          injection ho with ho; subst ho
          have gd := hd 11 _ 28 rfl rfl ⟨⟨11, .guard⟩, by simp, rfl, rfl⟩
          exact Or.inr ⟨(RY.wanted_at rfl rfl rfl gd).trans rfl, rfl⟩
        | 22, ho =>
          injection ho with ho; subst ho
          have gd := hd 11 _ 28 rfl rfl ⟨⟨11, .guard⟩, by simp, rfl, rfl⟩
          exact Or.inr ⟨(RY.wanted_at rfl rfl rfl gd).trans rfl, rfl⟩
        | 23, ho =>
          injection ho with ho; subst ho
          have gd := hd 11 _ 28 rfl rfl ⟨⟨11, .guard⟩, by simp, rfl, rfl⟩
          exact Or.inr ⟨(RY.wanted_at rfl rfl rfl gd).trans rfl, rfl⟩
        | 24, ho =>
          injection ho with ho; subst ho
          have e28 : a.tmps[28]?.getD undef = .bool true := (RY.ev_tmp a 28).trans (hd 11 _ 28 rfl rfl ⟨⟨11, .data⟩, by simp, rfl, rfl⟩)
          have e40 : a.tmps[40]?.getD undef = undef := (RY.ev_tmp a 40).trans (hd 23 _ 40 rfl rfl ⟨⟨23, .data⟩, by simp, rfl, rfl⟩)
          exact Or.inl ⟨RY.wanted_no rfl, Or.inl ⟨.bool true, X, by simp [execOp, go_sem, e28, e40], Below.refl _ _, rfl⟩⟩
        | n + 25, ho => simp at ho
      intro X vs hX hvs
      have q41 : vs 41 = _ := hvs 24 _ 41 rfl rfl
      simp only [RY.putAll, Act.put, List.setIfInBounds_toArray, List.set_cons_zero, List.set_cons_succ]
      rw [q41]
      generalize vs 17 = s17
      generalize vs 18 = s18
      generalize vs 19 = s19
      generalize vs 20 = s20
      generalize vs 21 = s21
      generalize vs 22 = s22
      generalize vs 23 = s23
      generalize vs 24 = s24
      generalize vs 25 = s25
      generalize vs 26 = s26
      generalize vs 27 = s27
      generalize vs 28 = s28
      generalize vs 29 = s29
      generalize vs 30 = s30
      generalize vs 31 = s31
      generalize vs 32 = s32
      generalize vs 33 = s33
      generalize vs 34 = s34
      generalize vs 35 = s35
      generalize vs 36 = s36
      generalize vs 37 = s37
      generalize vs 38 = s38
      generalize vs 39 = s39
      generalize vs 40 = s40
      clear hvs q41
      clear hne
      have HBX := uh (blw_trans HBW.out hX)
      clear hX
      go_wp2
      go_ret
      exact ⟨Pl.ret_bool HE.out.symm, HBX.out⟩
    · have HE : Hid (R = (wq && Pl.sameLns (a.drop (k + 1)) (b.drop (k + 1)))) := by show R = _; rw [HI.out, HS.out, hne]; rfl
      refine RY.region_pastG wr (Below.refl _ _) (VWsb p o p2 o2 n ac bc k x y xa ya xc yc wq) (VWsb_mono _ _ _ _ _ _ _ _ _ _ _ _ _ _ _) (by kernel_rfl) (by kernel_rfl) (by kernel_rfl) (by kernel_rfl) ?_ ?_
      · intro ii o' ho a X hX hk hd
        match ii, ho with
        | 0, ho =>
          injection ho with ho; subst ho
          have e0 : a.tmps[0]?.getD undef = .slice (some ⟨p, o, none⟩) n ac := (RY.ev_tmp a 0).trans ((hk 0 (by kernel_rfl)).trans rfl)
          exact Or.inl ⟨RY.wanted_no rfl, Or.inl ⟨.slice (some ⟨p, o, none⟩) n ac, X, by simp [execOp, go_sem, e0], Below.refl _ _, rfl⟩⟩
        | 1, ho =>
          injection ho with ho; subst ho
          have e5 : a.tmps[5]?.getD undef = .int .i64 (k : Int) := (RY.ev_tmp a 5).trans ((hk 5 (by kernel_rfl)).trans rfl)
          exact Or.inl ⟨RY.wanted_no rfl, Or.inl ⟨.int .i64 (k : Int), X, by simp [execOp, go_sem, e5], Below.refl _ _, rfl⟩⟩
        | 2, ho =>
          injection ho with ho; subst ho
          have e17 : a.tmps[17]?.getD undef = .slice (some ⟨p, o, none⟩) n ac := (RY.ev_tmp a 17).trans (hd 0 _ 17 rfl rfl ⟨⟨0, .data⟩, by simp, rfl, rfl⟩)
          have e18 : a.tmps[18]?.getD undef = .int .i64 (k : Int) := (RY.ev_tmp a 18).trans (hd 1 _ 18 rfl rfl ⟨⟨1, .data⟩, by simp, rfl, rfl⟩)
          exact Or.inl ⟨RY.wanted_no rfl, Or.inl ⟨.pointer (some ⟨p, o + k * 2, none⟩), X, by simp [execOp, go_sem, e17, e18, hk0, hkn], Below.refl _ _, rfl⟩⟩
        | 3, ho =>
          injection ho with ho; subst ho
          have e19 : a.tmps[19]?.getD undef = .pointer (some ⟨p, o + k * 2, none⟩) := (RY.ev_tmp a 19).trans (hd 2 _ 19 rfl rfl ⟨⟨2, .data⟩, by simp, rfl, rfl⟩)
          exact Or.inl ⟨RY.wanted_no rfl, Or.inl ⟨.pointer (some ⟨p, o + k * 2, none⟩), X, by simp [execOp, go_sem, e19], Below.refl _ _, rfl⟩⟩
        | 4, ho =>
          injection ho with ho; subst ho
          have e20 : a.tmps[20]?.getD undef = .pointer (some ⟨p, o + k * 2, none⟩) := (RY.ev_tmp a 20).trans (hd 3 _ 20 rfl rfl ⟨⟨3, .data⟩, by simp, rfl, rfl⟩)
          have ypl_ := Nat.lt_of_lt_of_le HPX.out hX.size
          have ycl_ : X.cell? ⟨p, o + k * 2, none⟩ = some (.string x.key) := by have q := rA_get (rA_later HGX.out HPX.out hX) 0 _ rfl; simpa using q
          exact Or.inl ⟨RY.wanted_no rfl, Or.inl ⟨.string x.key, X, by simp [execOp, go_sem, e20, ycl_], Below.refl _ _, rfl⟩⟩
        | 5, ho =>
          injection ho with ho; subst ho
          have e1 : a.tmps[1]?.getD undef = .slice (some ⟨p2, o2, none⟩) n bc := (RY.ev_tmp a 1).trans ((hk 1 (by kernel_rfl)).trans rfl)
          exact Or.inl ⟨RY.wanted_no rfl, Or.inl ⟨.slice (some ⟨p2, o2, none⟩) n bc, X, by simp [execOp, go_sem, e1], Below.refl _ _, rfl⟩⟩
        | 6, ho =>
          injection ho with ho; subst ho
          have e5 : a.tmps[5]?.getD undef = .int .i64 (k : Int) := (RY.ev_tmp a 5).trans ((hk 5 (by kernel_rfl)).trans rfl)
          exact Or.inl ⟨RY.wanted_no rfl, Or.inl ⟨.int .i64 (k : Int), X, by simp [execOp, go_sem, e5], Below.refl _ _, rfl⟩⟩
        | 7, ho =>
          injection ho with ho; subst ho
          have e22 : a.tmps[22]?.getD undef = .slice (some ⟨p2, o2, none⟩) n bc := (RY.ev_tmp a 22).trans (hd 5 _ 22 rfl rfl ⟨⟨5, .data⟩, by simp, rfl, rfl⟩)
          have e23 : a.tmps[23]?.getD undef = .int .i64 (k : Int) := (RY.ev_tmp a 23).trans (hd 6 _ 23 rfl rfl ⟨⟨6, .data⟩, by simp, rfl, rfl⟩)
          exact Or.inl ⟨RY.wanted_no rfl, Or.inl ⟨.pointer (some ⟨p2, o2 + k * 2, none⟩), X, by simp [execOp, go_sem, e22, e23, hk0, hkn], Below.refl _ _, rfl⟩⟩
        | 8, ho =>
          injection ho with ho; subst ho
          have e24 : a.tmps[24]?.getD undef = .pointer (some ⟨p2, o2 + k * 2, none⟩) := (RY.ev_tmp a 24).trans (hd 7 _ 24 rfl rfl ⟨⟨7, .data⟩, by simp, rfl, rfl⟩)
          exact Or.inl ⟨RY.wanted_no rfl, Or.inl ⟨.pointer (some ⟨p2, o2 + k * 2, none⟩), X, by simp [execOp, go_sem, e24], Below.refl _ _, rfl⟩⟩
        | 9, ho =>
          injection ho with ho; subst ho
          have e25 : a.tmps[25]?.getD undef = .pointer (some ⟨p2, o2 + k * 2, none⟩) := (RY.ev_tmp a 25).trans (hd 8 _ 25 rfl rfl ⟨⟨8, .data⟩, by simp, rfl, rfl⟩)
          have ypl_ := Nat.lt_of_lt_of_le HPY.out hX.size
          have ycl_ : X.cell? ⟨p2, o2 + k * 2, none⟩ = some (.string y.key) := by have q := rA_get (rA_later HGY.out HPY.out hX) 0 _ rfl; simpa using q
          exact Or.inl ⟨RY.wanted_no rfl, Or.inl ⟨.string y.key, X, by simp [execOp, go_sem, e25, ycl_], Below.refl _ _, rfl⟩⟩
        | 10, ho =>
          injection ho with ho; subst ho
          have e21 : a.tmps[21]?.getD undef = .string x.key := (RY.ev_tmp a 21).trans (hd 4 _ 21 rfl rfl ⟨⟨4, .data⟩, by simp, rfl, rfl⟩)
          have e26 : a.tmps[26]?.getD undef = .string y.key := (RY.ev_tmp a 26).trans (hd 9 _ 26 rfl rfl ⟨⟨9, .data⟩, by simp, rfl, rfl⟩)
          exact Or.inl ⟨RY.wanted_no rfl, Or.inl ⟨.bool false, X, by simp [execOp, go_sem, e21, e26, hne], Below.refl _ _, rfl⟩⟩
        | 11, ho =>
          injection ho with ho; subst ho
          have e27 : a.tmps[27]?.getD undef = .bool false := (RY.ev_tmp a 27).trans (hd 10 _ 27 rfl rfl ⟨⟨10, .data⟩, by simp, rfl, rfl⟩)
          exact Or.inl ⟨RY.wanted_no rfl, Or.inl ⟨.bool false, X, by simp [execOp, go_sem, e27], Below.refl _ _, rfl⟩⟩
        | 12, ho =>
          injection ho with ho; subst ho
          have gd := hd 11 _ 28 rfl rfl ⟨⟨11, .guard⟩, by simp, rfl, rfl⟩
          have e0 : a.tmps[0]?.getD undef = .slice (some ⟨p, o, none⟩) n ac := (RY.ev_tmp a 0).trans ((hk 0 (by kernel_rfl)).trans rfl)
          exact Or.inl ⟨(RY.wanted_at rfl rfl rfl gd).trans rfl, Or.inl ⟨.slice (some ⟨p, o, none⟩) n ac, X, by simp [execOp, go_sem, e0], Below.refl _ _, rfl⟩⟩
        | 13, ho =>
          injection ho with ho; subst ho
          have gd := hd 11 _ 28 rfl rfl ⟨⟨11, .guard⟩, by simp, rfl, rfl⟩
          have e5 : a.tmps[5]?.getD undef = .int .i64 (k : Int) := (RY.ev_tmp a 5).trans ((hk 5 (by kernel_rfl)).trans rfl)
          exact Or.inl ⟨(RY.wanted_at rfl rfl rfl gd).trans rfl, Or.inl ⟨.int .i64 (k : Int), X, by simp [execOp, go_sem, e5], Below.refl _ _, rfl⟩⟩
        | 14, ho =>
          injection ho with ho; subst ho
          have gd := hd 11 _ 28 rfl rfl ⟨⟨11, .guard⟩, by simp, rfl, rfl⟩
          have e29 : a.tmps[29]?.getD undef = .slice (some ⟨p, o, none⟩) n ac := (RY.ev_tmp a 29).trans (hd 12 _ 29 rfl rfl ⟨⟨12, .data⟩, by simp, rfl, rfl⟩)
          have e30 : a.tmps[30]?.getD undef = .int .i64 (k : Int) := (RY.ev_tmp a 30).trans (hd 13 _ 30 rfl rfl ⟨⟨13, .data⟩, by simp, rfl, rfl⟩)
          exact Or.inl ⟨(RY.wanted_at rfl rfl rfl gd).trans rfl, Or.inl ⟨.pointer (some ⟨p, o + k * 2, none⟩), X, by simp [execOp, go_sem, e29, e30, hk0, hkn], Below.refl _ _, rfl⟩⟩
        | 15, ho =>
          injection ho with ho; subst ho
          have gd := hd 11 _ 28 rfl rfl ⟨⟨11, .guard⟩, by simp, rfl, rfl⟩
          have e31 : a.tmps[31]?.getD undef = .pointer (some ⟨p, o + k * 2, none⟩) := (RY.ev_tmp a 31).trans (hd 14 _ 31 rfl rfl ⟨⟨14, .data⟩, by simp, rfl, rfl⟩)
          exact Or.inl ⟨(RY.wanted_at rfl rfl rfl gd).trans rfl, Or.inl ⟨.pointer (some ⟨p, o + k * 2 + 1, none⟩), X, by simp [execOp, go_sem, e31], Below.refl _ _, rfl⟩⟩
        | 16, ho =>
          injection ho with ho; subst ho
          have gd := hd 11 _ 28 rfl rfl ⟨⟨11, .guard⟩, by simp, rfl, rfl⟩
          have e32 : a.tmps[32]?.getD undef = .pointer (some ⟨p, o + k * 2 + 1, none⟩) := (RY.ev_tmp a 32).trans (hd 15 _ 32 rfl rfl ⟨⟨15, .data⟩, by simp, rfl, rfl⟩)
          have ypl_ := Nat.lt_of_lt_of_le HPX.out hX.size
          have ycl_ : X.cell? ⟨p, o + k * 2 + 1, none⟩ = some (.slice xa x.ws.length xc) := by have q := rA_get (rA_later HGX.out HPX.out hX) 1 _ rfl; simpa using q
          exact Or.inl ⟨(RY.wanted_at rfl rfl rfl gd).trans rfl, Or.inl ⟨.slice xa x.ws.length xc, X, by simp [execOp, go_sem, e32, ycl_], Below.refl _ _, rfl⟩⟩
        | 17, ho =>
          injection ho with ho; subst ho
          have gd := hd 11 _ 28 rfl rfl ⟨⟨11, .guard⟩, by simp, rfl, rfl⟩
          have e1 : a.tmps[1]?.getD undef = .slice (some ⟨p2, o2, none⟩) n bc := (RY.ev_tmp a 1).trans ((hk 1 (by kernel_rfl)).trans rfl)
          exact Or.inl ⟨(RY.wanted_at rfl rfl rfl gd).trans rfl, Or.inl ⟨.slice (some ⟨p2, o2, none⟩) n bc, X, by simp [execOp, go_sem, e1], Below.refl _ _, rfl⟩⟩
        | 18, ho =>
          injection ho with ho; subst ho
          have gd := hd 11 _ 28 rfl rfl ⟨⟨11, .guard⟩, by simp, rfl, rfl⟩
          have e5 : a.tmps[5]?.getD undef = .int .i64 (k : Int) := (RY.ev_tmp a 5).trans ((hk 5 (by kernel_rfl)).trans rfl)
          exact Or.inl ⟨(RY.wanted_at rfl rfl rfl gd).trans rfl, Or.inl ⟨.int .i64 (k : Int), X, by simp [execOp, go_sem, e5], Below.refl _ _, rfl⟩⟩
        | 19, ho =>
          injection ho with ho; subst ho
          have gd := hd 11 _ 28 rfl rfl ⟨⟨11, .guard⟩, by simp, rfl, rfl⟩
          have e34 : a.tmps[34]?.getD undef = .slice (some ⟨p2, o2, none⟩) n bc := (RY.ev_tmp a 34).trans (hd 17 _ 34 rfl rfl ⟨⟨17, .data⟩, by simp, rfl, rfl⟩)
          have e35 : a.tmps[35]?.getD undef = .int .i64 (k : Int) := (RY.ev_tmp a 35).trans (hd 18 _ 35 rfl rfl ⟨⟨18, .data⟩, by simp, rfl, rfl⟩)
          exact Or.inl ⟨(RY.wanted_at rfl rfl rfl gd).trans rfl, Or.inl ⟨.pointer (some ⟨p2, o2 + k * 2, none⟩), X, by simp [execOp, go_sem, e34, e35, hk0, hkn], Below.refl _ _, rfl⟩⟩
        | 20, ho =>
          injection ho with ho; subst ho
          have gd := hd 11 _ 28 rfl rfl ⟨⟨11, .guard⟩, by simp, rfl, rfl⟩
          have e36 : a.tmps[36]?.getD undef = .pointer (some ⟨p2, o2 + k * 2, none⟩) := (RY.ev_tmp a 36).trans (hd 19 _ 36 rfl rfl ⟨⟨19, .data⟩, by simp, rfl, rfl⟩)
          exact Or.inl ⟨(RY.wanted_at rfl rfl rfl gd).trans rfl, Or.inl ⟨.pointer (some ⟨p2, o2 + k * 2 + 1, none⟩), X, by simp [execOp, go_sem, e36], Below.refl _ _, rfl⟩⟩
        | 21, ho =>
          injection ho with ho; subst ho
          have gd := hd 11 _ 28 rfl rfl ⟨⟨11, .guard⟩, by simp, rfl, rfl⟩
          have e37 : a.tmps[37]?.getD undef = .pointer (some ⟨p2, o2 + k * 2 + 1, none⟩) := (RY.ev_tmp a 37).trans (hd 20 _ 37 rfl rfl ⟨⟨20, .data⟩, by simp, rfl, rfl⟩)
          have ypl_ := Nat.lt_of_lt_of_le HPY.out hX.size
          have ycl_ : X.cell? ⟨p2, o2 + k * 2 + 1, none⟩ = some (.slice ya y.ws.length yc) := by have q := rA_get (rA_later HGY.out HPY.out hX) 1 _ rfl; simpa using q
          exact Or.inl ⟨(RY.wanted_at rfl rfl rfl gd).trans rfl, Or.inl ⟨.slice ya y.ws.length yc, X, by simp [execOp, go_sem, e37, ycl_], Below.refl _ _, rfl⟩⟩
        | 22, ho =>
          injection ho with ho; subst ho
          have gd := hd 11 _ 28 rfl rfl ⟨⟨11, .guard⟩, by simp, rfl, rfl⟩
          have e33 : a.tmps[33]?.getD undef = .slice xa x.ws.length xc := (RY.ev_tmp a 33).trans (hd 16 _ 33 rfl rfl ⟨⟨16, .data⟩, by simp, rfl, rfl⟩)
          have e38 : a.tmps[38]?.getD undef = .slice ya y.ws.length yc := (RY.ev_tmp a 38).trans (hd 21 _ 38 rfl rfl ⟨⟨21, .data⟩, by simp, rfl, rfl⟩)
          refine Or.inl ⟨(RY.wanted_at rfl rfl rfl gd).trans rfl, Or.inr ⟨54, #[.slice xa x.ws.length xc, .slice ya y.ws.length yc], by simp [go_sem, e33, e38], (HCW.out X hX).mono ?_⟩⟩
          rintro e W' ⟨rfl, hb⟩
          exact ⟨_, rfl, hb, rfl⟩
        | 23, ho =>
          injection ho with ho; subst ho
          have gd := hd 11 _ 28 rfl rfl ⟨⟨11, .guard⟩, by simp, rfl, rfl⟩
          have e39 : a.tmps[39]?.getD undef = .bool wq := (RY.ev_tmp a 39).trans (hd 22 _ 39 rfl rfl ⟨⟨22, .data⟩, by simp, rfl, rfl⟩)
          exact Or.inl ⟨(RY.wanted_at rfl rfl rfl gd).trans rfl, Or.inl ⟨.bool (!wq), X, by simp [execOp, go_sem, e39], Below.refl _ _, rfl⟩⟩
        | 24, ho =>
          injection ho with ho; subst ho
          have e28 : a.tmps[28]?.getD undef = .bool false := (RY.ev_tmp a 28).trans (hd 11 _ 28 rfl rfl ⟨⟨11, .data⟩, by simp, rfl, rfl⟩)
          have e40 : a.tmps[40]?.getD undef = .bool (!wq) := (RY.ev_tmp a 40).trans (hd 23 _ 40 rfl rfl ⟨⟨23, .data⟩, by simp, rfl, rfl⟩)
          exact Or.inl ⟨RY.wanted_no rfl, Or.inl ⟨.bool (!wq), X, by simp [execOp, go_sem, e28, e40], Below.refl _ _, rfl⟩⟩
        | n + 25, ho => simp at ho
      intro X vs hX hvs
      have q41 : vs 41 = _ := hvs 24 _ 41 rfl rfl
      simp only [RY.putAll, Act.put, List.setIfInBounds_toArray, List.set_cons_zero, List.set_cons_succ]
      rw [q41]
      generalize vs 17 = s17
      generalize vs 18 = s18
      generalize vs 19 = s19
      generalize vs 20 = s20
      generalize vs 21 = s21
      generalize vs 22 = s22
      generalize vs 23 = s23
      generalize vs 24 = s24
      generalize vs 25 = s25
      generalize vs 26 = s26
      generalize vs 27 = s27
      generalize vs 28 = s28
      generalize vs 29 = s29
      generalize vs 30 = s30
      generalize vs 31 = s31
      generalize vs 32 = s32
      generalize vs 33 = s33
      generalize vs 34 = s34
      generalize vs 35 = s35
      generalize vs 36 = s36
      generalize vs 37 = s37
      generalize vs 38 = s38
      generalize vs 39 = s39
      generalize vs 40 = s40
      clear hvs q41
      clear hne
      have HBX := uh (blw_trans HBW.out hX)
      clear hX HCW
      cases wq
      · have HE2 : Hid (R = false) := HE.out
        go_wp2
        go_ret
        exact ⟨Pl.ret_bool HE2.out.symm, HBX.out⟩
      · have HE2 : Hid (R = Pl.sameLns (a.drop (k + 1)) (b.drop (k + 1))) := HE.out
        go_wp2
        go_roundw
        case rel => exact ⟨k + 1, by omega, by go_num, HE2, HBX.out⟩
        case measure => simp [intOf]; omega

end Go.Proofs.Ytojcopamegmeeaa

namespace Go.Proofs.Ytojcopamegmeeaa
open Go.RowKit Go.Deep

namespace RY
theorem region_nw {P : Program} {id : Nat} {Q : Exit → Act → World → Prop} {a0 : Act} {w : World} {l : List Oper} (v : World) (hv : Below v.heap.size v w)
    (V : Nat → Value → World → Option Nat → Prop) (hVm : ∀ j u W W' A, Below W.heap.size W W' → V j u W A → V j u W' A) (hVa : ∀ j u W, V j u W none → V j u W (some W.heap.size))
    (K : (Nat → Value) → World → Prop) (n fuel : Nat)
    (hm : P.follows .mixedOrders = true) (hasc : asc .any l.toArray = true) (hap : apartB l = true) (hpl : plainB l a0.tmps.size = true)
    (hlen : l.length = n + 1) (D : List Nat) (hD : (D.all fun d => decide (d < n) && waits l n d) = true)
    (hclo : ((List.range n).all fun i => (clo l fuel D).contains i) = true)
    (oS : Oper) (hS : l[n]? = some oS) (hSd : oS.dst = none)
    (hds : ((l.take n).all fun o => o.dst.isSome) = true)
    (iA kA : Nat) (oA : Oper) (hA : l[iA]? = some oA) (hAd : oA.dst = some kA) (hAn : iA < n) (T : TypeId) (zs : List Value)
    (r5 : ∀ (a : Act) (W : World), (execOp a.eval oA).run P W = .ok (.value (.pointer (some ⟨W.heap.size, 0, none⟩))) (W.alloc (.cells zs.toArray T)))
    (hop : ∀ (i : Nat) (o : Oper), l[i]? = some o → i < n → i ≠ iA → ∀ (a : Act) (W : World) (A : Option Nat), Below v.heap.size v W → (∀ q, A = some q → q < W.heap.size) → (∀ k, noDst l k = true → a.eval (.tmp k) = a0.eval (.tmp k)) →
      (∀ (j : Nat) (o' : Oper) (k : Nat), l[j]? = some o' → o'.dst = some k → (∃ e ∈ o.after, e.on = j ∧ Region.binds .any e = true) → j < n → j ≠ iA → V j (a.eval (.tmp k)) W A) →
      (∃ u W', (execOp a.eval o).run P W = .ok (.value u) W' ∧ Below W.heap.size W W' ∧ V i u W' A) ∨
      (∃ f args, (execOp a.eval o).run P W = .ok (.enter f args) W ∧ Calls P f args W fun e W' => ∃ u, e = .returned u ∧ Below W.heap.size W W' ∧ V i u W' A))
    (hfin : ∀ (a : Act) (W : World) (vals : Nat → Value) (q : Nat), Below v.heap.size v W → (∀ k, noDst l k = true → a.eval (.tmp k) = a0.eval (.tmp k)) → vals iA = .pointer (some ⟨q, 0, none⟩) → v.heap.size ≤ q → OwnBlk W q T zs.length → (∀ j, j < n → j ≠ iA → V j (vals j) W (some q)) →
      (∀ (j : Nat) (o' : Oper) (k : Nat), l[j]? = some o' → o'.dst = some k → (∃ e ∈ oS.after, e.on = j ∧ Region.binds .any e = true) → j < n → a.eval (.tmp k) = vals j) →
      ∃ W', (execOp a.eval oS).run P W = .ok .skip W' ∧ K vals W')
    (hend : ∀ (vals vs : Nat → Value) (W : World), K vals W → (∀ (i : Nat) (o : Oper) (k : Nat), l[i]? = some o → o.dst = some k → vs k = vals i) → Q .normal (putAll l a0 vs) W) :
    (Code.region id l.toArray true).wp P Q a0 w := by
  rw [List.all_eq_true] at hD
  refine region_TC (fun _ _ => True) (fun up vals W => (up n = false → Below v.heap.size v W ∧ ∃ A : Option Nat, (up iA = false → A = none) ∧ (up iA = true → ∃ q, A = some q ∧ vals iA = .pointer (some ⟨q, 0, none⟩) ∧ v.heap.size ≤ q ∧ OwnBlk W q T zs.length) ∧ ∀ j, j < n → j ≠ iA → up j = true → V j (vals j) W A) ∧ (up n = true → K vals W)) hm hasc hap hpl ?_ ?_ ?_
  · intro vals
    exact ⟨fun _ => ⟨Below.drew hv, none, fun _ => rfl, fun h => by simp at h, fun j _ _ h => by simp at h⟩, fun h => by simp at h⟩
  · intro up vals i o ho hi hcl a W hk hdep hT
    have hil : i < n + 1 := by rw [← hlen]; exact (List.getElem?_eq_some_iff.1 ho).1
    have hcl2 : (∀ d ∈ D, up d = true) → ∀ j, j < n → up j = true := fun h j hj => by
      rw [List.all_eq_true] at hclo
      have := hclo j (by simp; omega)
      exact clo_up hcl fuel D h j (by simpa using this)
    by_cases hS0 : up n = true
    · exfalso
      have hall : ∀ j, j < n + 1 → up j = true := fun j hj => by
        by_cases e : j = n
        · rw [e]; exact hS0
        · exact hcl2 (fun d hd => by
            have h2 := hD d hd
            rw [Bool.and_eq_true, decide_eq_true_eq] at h2
            obtain ⟨e, he, hej, hbd⟩ := waits_spec h2.2 hS
            rw [← hej]; exact hcl n oS e hS he hbd hS0) j (by omega)
      rw [hall i hil] at hi; cases hi
    · have hS0 : up n = false := by simpa using hS0
      obtain ⟨hBW, A, hA0, hA1, hV⟩ := hT.1 hS0
      have hdst : i < n → o.dst.isSome = true := fun h => by
        rw [List.all_eq_true] at hds
        exact hds _ (List.mem_of_getElem? (i := i) (by rw [List.getElem?_take_of_lt h]; exact ho))
      have hni : i < n → ¬ n = i := fun h => by omega
      by_cases hin : i < n
      · by_cases hia : i = iA
        · subst hia
          obtain rfl : o = oA := Option.some.inj (ho.symm.trans hA)
          have hAN : A = none := hA0 hi
          subst hAN
          have hb : Below W.heap.size W (W.alloc (.cells zs.toArray T)) := blw_alloc (Below.refl _ _) _
          refine Or.inl ⟨_, _, r5 a W, hdst hin, trivial, fun _ => ⟨blw_trans hBW hb, some W.heap.size, fun h => by simp at h, fun _ => ⟨W.heap.size, rfl, by simp, hBW.size, OwnBlk.alloc W _ _ _ (by simp)⟩, fun j hj hja hu => ?_⟩, fun h => ?_⟩
          · have hu : up j = true := by simpa [hja] using hu
            simp only [hja, if_false]
            exact hVm _ _ _ _ _ hb (hVa _ _ _ (hV j hj hja hu))
          · have : up n = true := by simpa [hni hin] using h
            rw [hS0] at this; cases this
        · have hAq : ∀ q, A = some q → q < W.heap.size := fun q e => by
            cases h : up iA
            · rw [hA0 h] at e; cases e
            · obtain ⟨q', e1, _, _, e4⟩ := hA1 h
              rw [e1] at e; injection e with e; subst e; exact e4.lt
          have hai : ¬ iA = i := fun e => hia e.symm
          have key : ∀ u W', Below W.heap.size W W' → V i u W' A → ((fun j => (j == i) || up j) n = false → Below v.heap.size v W' ∧ ∃ A : Option Nat, ((fun j => (j == i) || up j) iA = false → A = none) ∧ ((fun j => (j == i) || up j) iA = true → ∃ q, A = some q ∧ (fun j => if j = i then u else vals j) iA = .pointer (some ⟨q, 0, none⟩) ∧ v.heap.size ≤ q ∧ OwnBlk W' q T zs.length) ∧ ∀ j, j < n → j ≠ iA → (fun j => (j == i) || up j) j = true → V j ((fun j => if j = i then u else vals j) j) W' A) ∧ ((fun j => (j == i) || up j) n = true → K (fun j => if j = i then u else vals j) W') := fun u W' hW hVi => by
            refine ⟨fun _ => ⟨blw_trans hBW hW, A, fun h => hA0 (by simpa [hai] using h), fun h => ?_, fun j hj hja hu => ?_⟩, fun h => ?_⟩
            · obtain ⟨q, e1, e2, e3, e4⟩ := hA1 (by simpa [hai] using h)
              exact ⟨q, e1, by simpa [hai] using e2, e3, e4.later hW⟩
            · by_cases e : j = i
              · simp only [e, if_true]; exact hVi
              · have hu : up j = true := by simpa [e] using hu
                simp only [e, if_false]
                exact hVm _ _ _ _ _ hW (hV j hj hja hu)
            · have : up n = true := by simpa [hni hin] using h
              rw [hS0] at this; cases this
          rcases hop i o ho hin hia a W A hBW hAq hk (fun j o' k hj hk' hd hjn hja => by
              obtain ⟨q1, q2, _⟩ := hdep j o' k hj hk' hd
              rw [q2]; exact hV j hjn hja q1) with ⟨u, W', hr, hW, hVi⟩ | ⟨f, args, hr, hc⟩
          · exact Or.inl ⟨u, W', hr, hdst hin, trivial, key u W' hW hVi⟩
          · refine Or.inr (Or.inr ⟨f, args, hr, hdst hin, hc.mono ?_⟩)
            rintro e W' ⟨u, rfl, hW, hVi⟩
            exact ⟨u, rfl, trivial, key u W' hW hVi⟩
      · obtain rfl : i = n := by omega
        rw [hS] at ho
        injection ho with ho
        subst ho
        have hsub : ∀ j, j < i → up j = true := hcl2 fun d hd => by
          have h2 := hD d hd
          rw [Bool.and_eq_true, decide_eq_true_eq] at h2
          obtain ⟨e, he, hej, hbd⟩ := waits_spec h2.2 hS
          have hdl : d < l.length := by rw [hlen]; omega
          have hq : (l[d]).dst.isSome = true := by
            rw [List.all_eq_true] at hds
            exact hds _ (List.mem_of_getElem? (i := d) (by rw [List.getElem?_take_of_lt h2.1]; simp))
          obtain ⟨k, hk'⟩ := Option.isSome_iff_exists.1 hq
          exact (hdep d l[d] k (by simp) hk' ⟨e, he, hej, hbd⟩).1
        obtain ⟨q, e1, e2, e3, e4⟩ := hA1 (hsub iA hAn)
        subst e1
        obtain ⟨W', hr, hK⟩ := hfin a W vals q hBW hk e2 e3 e4 (fun j hj hja => hV j hj hja (hsub j hj)) (fun j o' k hj hk' hd hjn => (hdep j o' k hj hk' hd).2.1)
        exact Or.inr (Or.inl ⟨W', hr, hSd, fun h => by simp at h, fun _ => hK⟩)
  · intro up vals vs W hall hv2 hT
    exact hend vals vs W (hT.2 (hall n (by omega))) (fun i o k hi hd => (hv2 i o k hi hd).1)
end RY
end Go.Proofs.Ytojcopamegmeeaa

namespace Go.Proofs.Ytojcopamegmeeaa
open Go.RowKit Go.Deep

theorem Try.under_chs : Try.prog.underlying 26 = some (.slice 44) := by kernel_rfl
theorem Try.info_ch : (Try.prog.info? 44).map (fun i => (i.zero, i.size, i.bytes)) = some (some (.agg #[.int .i64 0, .string { data := #[] }, .string { data := #[] }, .string { data := #[] }, .slice none 0 0]), 5, 80) := by kernel_rfl
theorem keyCh_len (a b : Pl.Bl) (r : Pl.Ru) : (Pl.keyCh a b r).length ≤ 1 := by
  unfold Pl.keyCh; split <;> simp
theorem keyChs_len (a b : Pl.Bl) : ∀ rs : List Pl.Ru, (rs.flatMap (Pl.keyCh a b)).length ≤ rs.length
  | [] => by simp
  | r :: rs => by
    have := keyChs_len a b rs
    have h2 := keyCh_len a b r
    rw [List.flatMap_cons, List.length_append, List.length_cons]; omega
/-- What is kept while the changes of two blocks are gathered. -/
structure Kb (w w2 W : World) (b0 g0 n : Nat) (AC BC : List Value) (rs : List Pl.Ru) (ra : Option Addr) (rc : Nat) (rF : List Nat) (vo : Value) : Prop where
  bel : Below w.heap.size w W
  le : w2.heap.size ≤ W.heap.size
  ba : LBox W b0 AC
  bb : LBox W (b0 + 1) BC
  rr : Rep W false [.row 73 shSheetRule] rF [rulesD rs] [.slice ra rs.length rc]
  own : ∀ g, vo.ownBlock = some g → (g = g0 ∨ w2.heap.size ≤ g) ∧ w.heap.size ≤ g
  ord : b0 = w.heap.size ∧ b0 + 1 < g0 ∧ b0 + 1 < w2.heap.size ∧ ∀ b ∈ rF, g0 < b ∧ b < w2.heap.size
theorem Kb.later {w w2 W W' : World} {b0 g0 n : Nat} {AC BC : List Value} {rs : List Pl.Ru} {ra : Option Addr} {rc : Nat} {rF : List Nat} {vo : Value} (h : Kb w w2 W b0 g0 n AC BC rs ra rc rF vo) (hb : Below W.heap.size W W') : Kb w w2 W' b0 g0 n AC BC rs ra rc rF vo :=
  ⟨blw_trans h.bel hb, Nat.le_trans h.le hb.size, h.ba.later hb, h.bb.later hb, h.rr.later hb, h.own, h.ord⟩
theorem Kb.grown {w w2 W W' : World} {b0 g0 n : Nat} {AC BC : List Value} {rs : List Pl.Ru} {ra : Option Addr} {rc : Nat} {rF : List Nat} {vo u : Value} (h : Kb w w2 W b0 g0 n AC BC rs ra rc rF vo) (hg : W.grownBy W' vo.ownBlock) (hu : u.ownBlock = vo.ownBlock ∨ u.ownBlock = some W.heap.size) : Kb w w2 W' b0 g0 n AC BC rs ra rc rF u := by
  obtain ⟨o1, o2, o3, o4⟩ := h.ord
  refine ⟨blw_grown h.bel hg (fun b e => (h.own b e).2), Nat.le_trans h.le hg.size, h.ba.grown hg (fun e => ?_), h.bb.grown hg (fun e => ?_), h.rr.grown hg (fun b hb e => ?_), fun g e => ?_, o1, o2, o3, o4⟩
  · rcases (h.own _ e).1 with q | q <;> omega
  · rcases (h.own _ e).1 with q | q <;> omega
  · have := o4 b hb
    rcases (h.own _ e).1 with q | q <;> omega
  · rcases hu with q | q
    · exact h.own g (q ▸ e)
    · rw [q] at e
      injection e with e
      have := h.le; have := h.bel.size
      exact ⟨Or.inr (by omega), by omega⟩
def VBe (rp : Nat) (ro : Nat) (n : Nat) (rc : Nat) (k : Nat) (N0 : Nat) (a : Pl.Bl) (ru : Pl.Ru) (aa : Option Addr) (ac : Nat) (xl : List Pl.Ln) : Nat → Value → World → Prop
  | 0, vv, _ => vv = .agg #[.string a.kind, .string a.name, .slice aa a.lines.length ac]
  | 1, vv, _ => vv = .slice (some ⟨rp, ro, none⟩) n rc
  | 2, vv, _ => vv = .int .i64 (k : Int)
  | 3, vv, _ => vv = .pointer (some ⟨rp, ro + k * 4, none⟩)
  | 4, vv, _ => vv = .pointer (some ⟨rp, ro + k * 4, none⟩)
  | 5, vv, _ => vv = .string ru.key
  | 6, vv, W => ∃ x1 x2 F, vv = .slice x1 xl.length x2 ∧ Rep W false shLns F [lnsD xl] [.slice x1 xl.length x2] ∧ F.Nodup ∧ ∀ z ∈ F, N0 ≤ z
  | 7, vv, W => ∃ x1 x2 F, vv = .slice x1 xl.length x2 ∧ Rep W false shLns F [lnsD xl] [.slice x1 xl.length x2] ∧ F.Nodup ∧ ∀ z ∈ F, N0 ≤ z
  | _, _, _ => True
theorem VBe_mono (rp : Nat) (ro : Nat) (n : Nat) (rc : Nat) (k : Nat) (N0 : Nat) (a : Pl.Bl) (ru : Pl.Ru) (aa : Option Addr) (ac : Nat) (xl : List Pl.Ln) : ∀ jj vv W W', Below W.heap.size W W' → VBe rp ro n rc k N0 a ru aa ac xl jj vv W → VBe rp ro n rc k N0 a ru aa ac xl jj vv W' := by
  intro jj vv W W' hb h
  match jj with
  | 0 => exact h
  | 1 => exact h
  | 2 => exact h
  | 3 => exact h
  | 4 => exact h
  | 5 => exact h
  | 6 =>
    obtain ⟨x1, x2, F, h1, h2, h3⟩ := h
    exact ⟨x1, x2, F, h1, h2.later hb, h3⟩
  | 7 =>
    obtain ⟨x1, x2, F, h1, h2, h3⟩ := h
    exact ⟨x1, x2, F, h1, h2.later hb, h3⟩
  | n + 8 => exact trivial
def VBf (rp : Nat) (ro : Nat) (n : Nat) (rc : Nat) (k : Nat) (N0 : Nat) (b : Pl.Bl) (ru : Pl.Ru) (ba : Option Addr) (bc : Nat) (yl : List Pl.Ln) : Nat → Value → World → Prop
  | 0, vv, _ => vv = .agg #[.string b.kind, .string b.name, .slice ba b.lines.length bc]
  | 1, vv, _ => vv = .slice (some ⟨rp, ro, none⟩) n rc
  | 2, vv, _ => vv = .int .i64 (k : Int)
  | 3, vv, _ => vv = .pointer (some ⟨rp, ro + k * 4, none⟩)
  | 4, vv, _ => vv = .pointer (some ⟨rp, ro + k * 4, none⟩)
  | 5, vv, _ => vv = .string ru.key
  | 6, vv, W => ∃ x1 x2 F, vv = .slice x1 yl.length x2 ∧ Rep W false shLns F [lnsD yl] [.slice x1 yl.length x2] ∧ F.Nodup ∧ ∀ z ∈ F, N0 ≤ z
  | 7, vv, W => ∃ x1 x2 F, vv = .slice x1 yl.length x2 ∧ Rep W false shLns F [lnsD yl] [.slice x1 yl.length x2] ∧ F.Nodup ∧ ∀ z ∈ F, N0 ≤ z
  | _, _, _ => True
theorem VBf_mono (rp : Nat) (ro : Nat) (n : Nat) (rc : Nat) (k : Nat) (N0 : Nat) (b : Pl.Bl) (ru : Pl.Ru) (ba : Option Addr) (bc : Nat) (yl : List Pl.Ln) : ∀ jj vv W W', Below W.heap.size W W' → VBf rp ro n rc k N0 b ru ba bc yl jj vv W → VBf rp ro n rc k N0 b ru ba bc yl jj vv W' := by
  intro jj vv W W' hb h
  match jj with
  | 0 => exact h
  | 1 => exact h
  | 2 => exact h
  | 3 => exact h
  | 4 => exact h
  | 5 => exact h
  | 6 =>
    obtain ⟨x1, x2, F, h1, h2, h3⟩ := h
    exact ⟨x1, x2, F, h1, h2.later hb, h3⟩
  | 7 =>
    obtain ⟨x1, x2, F, h1, h2, h3⟩ := h
    exact ⟨x1, x2, F, h1, h2.later hb, h3⟩
  | n + 8 => exact trivial
def VBg (b0 : Nat) (rp : Nat) (ro : Nat) (n : Nat) (rc : Nat) (k : Nat) (a : Pl.Bl) (ru : Pl.Ru) (Xba : Option Addr) (Xbc : Nat) (yl : List Pl.Ln) : Nat → Value → World → Option Nat → Prop
  | 0, vv, _, _ => vv = .pointer (some ⟨b0, 0, none⟩)
  | 1, vv, _, _ => vv = .string a.kind
  | 2, vv, _, _ => vv = .pointer (some ⟨b0, 1, none⟩)
  | 3, vv, _, _ => vv = .string a.name
  | 4, vv, _, _ => vv = .slice (some ⟨rp, ro, none⟩) n rc
  | 5, vv, _, _ => vv = .int .i64 (k : Int)
  | 6, vv, _, _ => vv = .pointer (some ⟨rp, ro + k * 4, none⟩)
  | 7, vv, _, _ => vv = .pointer (some ⟨rp, ro + k * 4, none⟩)
  | 8, vv, _, _ => vv = .string ru.key
  | 9, vv, _, _ => vv = .slice Xba yl.length Xbc
  | 10, vv, _, _ => vv = .agg #[.int .i64 3, .string a.kind, .string a.name, .string ru.key, .slice Xba yl.length Xbc]
  | 11, _, _, _ => True
  | _, _, _, _ => True
theorem VBg_mono (b0 : Nat) (rp : Nat) (ro : Nat) (n : Nat) (rc : Nat) (k : Nat) (a : Pl.Bl) (ru : Pl.Ru) (Xba : Option Addr) (Xbc : Nat) (yl : List Pl.Ln) : ∀ jj vv W W' A_, Below W.heap.size W W' → VBg b0 rp ro n rc k a ru Xba Xbc yl jj vv W A_ → VBg b0 rp ro n rc k a ru Xba Xbc yl jj vv W' A_ := by
  intro jj vv W W' A_ hb h
  match jj with
  | 0 => exact h
  | 1 => exact h
  | 2 => exact h
  | 3 => exact h
  | 4 => exact h
  | 5 => exact h
  | 6 => exact h
  | 7 => exact h
  | 8 => exact h
  | 9 => exact h
  | 10 => exact h
  | 11 => exact h
  | n + 12 => exact trivial
theorem VBg_na (b0 : Nat) (rp : Nat) (ro : Nat) (n : Nat) (rc : Nat) (k : Nat) (a : Pl.Bl) (ru : Pl.Ru) (Xba : Option Addr) (Xbc : Nat) (yl : List Pl.Ln) : ∀ jj vv W, VBg b0 rp ro n rc k a ru Xba Xbc yl jj vv W none → VBg b0 rp ro n rc k a ru Xba Xbc yl jj vv W (some W.heap.size) := by
  intro jj vv W h
  match jj with
  | 0 => exact h
  | 1 => exact h
  | 2 => exact h
  | 3 => exact h
  | 4 => exact h
  | 5 => exact h
  | 6 => exact h
  | 7 => exact h
  | 8 => exact h
  | 9 => exact h
  | 10 => exact h
  | 11 => exact h
  | n + 12 => exact trivial
set_option maxRecDepth 8000 in
set_option maxHeartbeats 16000000 in
theorem l43BlockS (a b : Pl.Bl) (av bv : Value) (w : World) (ha : Raw w shLns [lnsD a.lines] [av]) (hb : Raw w shLns [lnsD b.lines] [bv]) (hla : a.lines.length ≤ 4194304 ∧ ∀ x ∈ a.lines, x.ws.length ≤ 4194304) (hlb : b.lines.length ≤ 4194304 ∧ ∀ x ∈ b.lines, x.ws.length ≤ 4194304) :
    Calls Try.prog 17 #[.agg #[.string a.kind, .string a.name, av], .agg #[.string b.kind, .string b.name, bv]] w (AnsL shChs (chsD (Pl.diffBl a b)) w) := by
  obtain ⟨aa, ac, rfl⟩ := ha.len0
  obtain ⟨ba, bc, rfl⟩ := hb.len0
  have HA := uh ha
  have HB := uh hb
  have HLA := uh hla
  have HLB := uh hlb
  have HDE : Hid (Pl.diffBl a b = (Pl.rulesOf a.kind).flatMap (Pl.keyCh a b)) := rfl
  have HRL := uh (rules_len a.kind)
  clear ha hb hla hlb
  obtain ⟨b0, hb0⟩ : ∃ b, b = w.heap.size := ⟨_, rfl⟩
  have HZ0 := uh hb0
  obtain ⟨wa, hwa⟩ : ∃ wa, wa = (w.alloc (.cells #[.string a.kind, .string a.name, .slice aa a.lines.length ac] 42)).alloc (.cells #[.string b.kind, .string b.name, .slice ba b.lines.length bc] 42) := ⟨_, rfl⟩
  have HBW : Hid (Below w.heap.size w wa) := by show Below _ _ _; rw [hwa]; exact blw_alloc (blw_alloc (Below.refl _ _) _) _
  have HA0 : Hid (LBox wa b0 [.string a.kind, .string a.name, .slice aa a.lines.length ac]) := by show LBox _ _ _; rw [hwa, hb0]; exact (LBox.new w #[.string a.kind, .string a.name, .slice aa a.lines.length ac] _ _ rfl).past _
  have HB0 : Hid (LBox wa (b0 + 1) [.string b.kind, .string b.name, .slice ba b.lines.length bc]) := by show LBox _ _ _; rw [hwa]; exact LBox.new _ #[.string b.kind, .string b.name, .slice ba b.lines.length bc] _ _ (by simp [hb0])
  go_enter Try.func17, Try.ntmps17
  go_upto_region 1 with fail
  rw [← hwa, ← hb0]
  clear hwa hb0
  obtain ⟨w1, hw1⟩ : ∃ w1, w1 = wa.alloc (.cells #[] 44) := ⟨_, rfl⟩
  have hb1 : Below wa.heap.size wa w1 := by rw [hw1]; exact blw_alloc (Below.refl _ _) _
  obtain ⟨g0, hg0⟩ : ∃ g, g = wa.heap.size := ⟨_, rfl⟩
  have HG0 : Hid (b0 + 1 < g0 ∧ g0 < w1.heap.size) := ⟨by rw [hg0]; exact HB0.out.lt, by rw [hw1, hg0]; simp⟩
  have HGr : Hid (Gr w1 w.heap.size 44 shSheetChange (.slice (some ⟨g0, 0, none⟩) 0 0) 0 [] [] []) := by
    show Gr _ _ _ _ _ _ _ _ _
    rw [hw1, hg0]; exact Gr.emp shSheetChange (heap_alloc_new wa _) HBW.out.size
  go_upto_region 2 with fail
  rw [← hw1, ← hg0]
  clear hw1 hg0
  replace HBW := uh (blw_trans HBW.out hb1)
  replace HA0 := uh (HA0.out.later hb1)
  replace HB0 := uh (HB0.out.later hb1)
  clear hb1
  have x0 := HA0.out.get 0 _ rfl
  have xl0 := HA0.out.lt
  have HCR := uh (sheetRulesS a.kind w1)
  go_wp2_with fail
  refine HCR.out.mono ?_
  rintro e w2 ⟨rv, rF, rfl, rr, _, rf, hb2⟩
  obtain ⟨rs, hrs⟩ : ∃ rs, rs = Pl.rulesOf a.kind := ⟨_, rfl⟩
  rw [← hrs] at rr HDE HRL
  clear hrs
  obtain ⟨ra, rc, hrv⟩ := rr.raw.len0
  subst hrv
  have HK0 : Hid (Kb w w2 w2 b0 g0 rs.length [.string a.kind, .string a.name, .slice aa a.lines.length ac] [.string b.kind, .string b.name, .slice ba b.lines.length bc] rs ra rc rF (.slice (some ⟨g0, 0, none⟩) 0 0)) := by
    refine ⟨blw_trans HBW.out hb2, Nat.le_refl _, HA0.out.later hb2, HB0.out.later hb2, rr, fun g e => ?_, HZ0.out, HG0.out.1, (HB0.out.later hb2).lt, fun b hb => ⟨?_, rr.lt b hb⟩⟩
    · have e1 : g0 = g := by injection e
      exact ⟨Or.inl e1.symm, by have := HG0.out; have := HZ0.out; omega⟩
    · have := rf b hb; have := HG0.out; omega
  replace HGr := uh (HGr.out.later hb2)
  clear rr rf hb2 x0 xl0 HCR HA0 HB0 HBW HG0
  obtain ⟨n, hn⟩ : ∃ n, n = rs.length := ⟨_, rfl⟩
  have HN := uh hn
  have hnn : rs.length = n := hn.symm
  clear hn
  rw [hnn]
  clear hnn
  go_wp2
  go_loopw [5, 7] (fun vo vi wr => ∃ (k : Nat) (G : List Nat) (xs : List Value), k ≤ n ∧ vi = .int .i64 k ∧ Gr wr w.heap.size 44 shSheetChange vo ((rs.take k).flatMap (Pl.keyCh a b)).length G (((rs.take k).flatMap (Pl.keyCh a b)).flatMap chD) xs ∧ Kb w w2 wr b0 g0 rs.length [.string a.kind, .string a.name, .slice aa a.lines.length ac] [.string b.kind, .string b.name, .slice ba b.lines.length bc] rs ra rc rF vo) (fun _ vi _ => n - (intOf vi).toNat)
  case atStart => exact ⟨0, [], [], Nat.zero_le _, rfl, HGr.out, HK0.out⟩
  case round =>
    obtain ⟨k, G, xs, hk, rfl, hG, hK⟩ := hrel
    clear HGr HK0
    have HGr := uh hG
    have HKW := uh hK
    obtain ⟨ua, uc, huu⟩ := hG.shape
    subst huu
    clear hG hK
    by_cases hlt : k < n
    rotate_left
    · have hks : rs.take k = rs := List.take_of_length_le (by have := HN.out; omega)
      rw [hks] at HGr HKW ⊢
      obtain ⟨F, r, nd, fr⟩ := HGr.out.done
      have HD : Hid (AnsL shChs (chsD (Pl.diffBl a b)) w (.returned (.slice ua (rs.flatMap (Pl.keyCh a b)).length uc)) wr) := by rw [HDE.out]; exact ⟨_, F, rfl, r, nd, fr, HKW.out.bel⟩
      clear r nd fr hks
      go_wp2
      go_ret
      exact HD.out
    have hkL : k < rs.length := by have := HN.out; omega
    have hn100 : n ≤ 12 := by have := HN.out; have := HRL.out; omega
    obtain ⟨rp, ro, rcc, r1, q1, v3, hv, hp, hg, _, hd3⟩ := rule_at HKW.out.rr.raw hkL
    rw [← HN.out] at hv
    injection hv with g1 _ g3
    subst g1; subst g3
    obtain ⟨r3, q3, e5⟩ := hd3.len0
    subst e5
    have HTK : Hid (rs.take (k + 1) = rs.take k ++ [rs.getD k Pl.ruNo]) := by
      have e : rs.getD k Pl.ruNo = rs[k] := by simp [hkL]
      show _ = _
      rw [e, List.take_succ_eq_append_getElem hkL]
    have hle : ((rs.take k).flatMap (Pl.keyCh a b)).length ≤ 12 := by
      have h1 := keyChs_len a b (rs.take k)
      rw [List.length_take] at h1
      have := HN.out; omega
    obtain ⟨ru, hru⟩ : ∃ ru, ru = rs.getD k Pl.ruNo := ⟨_, rfl⟩
    rw [← hru] at hg HTK
    have HGX : Hid (wr.rangeAt rp (ro + k * 4) [.string ru.key, .slice r1 ru.args.length q1, .bool ru.many, .slice r3 ru.dflt.length q3]) := hg
    have HPZ := uh hp
    clear hru hg hp hd3
    obtain ⟨ac0, hac⟩ : ∃ ac0, ac0 = (rs.take k).flatMap (Pl.keyCh a b) := ⟨_, rfl⟩
    rw [← hac] at HGr HKW hle ⊢
    have HAC := uh hac
    clear hac
    have hk0 : (0 : Int) ≤ (k : Int) := by omega
    have hkn : (k : Int) < (n : Int) := by omega
    have HA0 := uh HKW.out.ba
    have HKC : Hid (Pl.keyCh a b ru = if Pl.sameLns (Pl.linesOf a.lines ru.key) (Pl.linesOf b.lines ru.key) then [] else [⟨if (Pl.linesOf b.lines ru.key).length = 0 then 4 else 3, a.kind, a.name, ru.key, Pl.linesOf b.lines ru.key⟩]) := rfl
    have HCA := uh (fun (X : World) (hX : Below wr.heap.size wr X) => l41OfS a (.slice aa a.lines.length ac) ru.key X (HA.out.later (blw_trans HKW.out.bel hX)) HLA.out.1 HLA.out.2)
    obtain ⟨xl, hxl⟩ : ∃ xl, xl = Pl.linesOf a.lines ru.key := ⟨_, rfl⟩
    rw [← hxl] at HCA HKC
    have HCB0 := uh (fun (X : World) (hX : Below wr.heap.size wr X) => l41OfS b (.slice ba b.lines.length bc) ru.key X (HB.out.later (blw_trans HKW.out.bel hX)) HLB.out.1 HLB.out.2)
    obtain ⟨yl, hyl⟩ : ∃ yl, yl = Pl.linesOf b.lines ru.key := ⟨_, rfl⟩
    rw [← hyl] at HCB0 HKC
    have HGL : Hid (∀ b ∈ G, b < wr.heap.size) := HGr.out.rep.lt
    have HVL : Hid (∀ b, (Value.slice ua ac0.length uc).ownBlock = some b → b < wr.heap.size) := fun b hq => (owns_blk_lt HGr.out.row hq).2
    have HSW : Hid (w.heap.size ≤ wr.heap.size) := HKW.out.bel.size
    clear hxl hyl
    go_upto_region 6 with fail
    refine RY.region_past wr (Below.refl _ _) (VBe rp ro n rc k wr.heap.size a ru aa ac xl) (VBe_mono _ _ _ _ _ _ _ _ _ _ _) (by kernel_rfl) (by kernel_rfl) (by kernel_rfl) (by kernel_rfl) ?_ ?_
    · intro ii o' ho a_ X hX hk hd
      have zb0 := HA0.out.later hX
      have zb0l := zb0.lt
      match ii, ho with
      | 0, ho =>
        injection ho with ho; subst ho
        have v2 : a_.eval (.tmp 2) = .pointer (some ⟨b0, 0, none⟩) := (hk 2 (by kernel_rfl)).trans rfl
        exact Or.inl ⟨_, X, exec_load_mid 42 _ rfl b0 0 v2 [.string a.kind, .string a.name, .slice aa a.lines.length ac] _ zb0.at_ Try.underlying42 rfl (by kernel_rfl), Below.refl _ _, rfl⟩
      | 1, ho =>
        injection ho with ho; subst ho
        have e6 : a_.tmps[6]?.getD undef = .slice (some ⟨rp, ro, none⟩) n rc := (RY.ev_tmp a_ 6).trans ((hk 6 (by kernel_rfl)).trans rfl)
        exact Or.inl ⟨.slice (some ⟨rp, ro, none⟩) n rc, X, by simp [execOp, go_sem, e6], Below.refl _ _, rfl⟩
      | 2, ho =>
        injection ho with ho; subst ho
        have e7 : a_.tmps[7]?.getD undef = .int .i64 (k : Int) := (RY.ev_tmp a_ 7).trans ((hk 7 (by kernel_rfl)).trans rfl)
        exact Or.inl ⟨.int .i64 (k : Int), X, by simp [execOp, go_sem, e7], Below.refl _ _, rfl⟩
      | 3, ho =>
        injection ho with ho; subst ho
        have e22 : a_.tmps[22]?.getD undef = .slice (some ⟨rp, ro, none⟩) n rc := (RY.ev_tmp a_ 22).trans (hd 1 _ 22 rfl rfl ⟨⟨1, .data⟩, by simp, rfl, rfl⟩)
        have e23 : a_.tmps[23]?.getD undef = .int .i64 (k : Int) := (RY.ev_tmp a_ 23).trans (hd 2 _ 23 rfl rfl ⟨⟨2, .data⟩, by simp, rfl, rfl⟩)
        exact Or.inl ⟨.pointer (some ⟨rp, ro + k * 4, none⟩), X, by simp [execOp, go_sem, e22, e23, hk0, hkn], Below.refl _ _, rfl⟩
      | 4, ho =>
        injection ho with ho; subst ho
        have e24 : a_.tmps[24]?.getD undef = .pointer (some ⟨rp, ro + k * 4, none⟩) := (RY.ev_tmp a_ 24).trans (hd 3 _ 24 rfl rfl ⟨⟨3, .data⟩, by simp, rfl, rfl⟩)
        exact Or.inl ⟨.pointer (some ⟨rp, ro + k * 4, none⟩), X, by simp [execOp, go_sem, e24], Below.refl _ _, rfl⟩
      | 5, ho =>
        injection ho with ho; subst ho
        have e25 : a_.tmps[25]?.getD undef = .pointer (some ⟨rp, ro + k * 4, none⟩) := (RY.ev_tmp a_ 25).trans (hd 4 _ 25 rfl rfl ⟨⟨4, .data⟩, by simp, rfl, rfl⟩)
        have ypl_ := Nat.lt_of_lt_of_le HPZ.out hX.size
        have ycl_ : X.cell? ⟨rp, ro + k * 4, none⟩ = some (.string ru.key) := by have q := rA_get (rA_later HGX.out HPZ.out hX) 0 _ rfl; simpa using q
        exact Or.inl ⟨.string ru.key, X, by simp [execOp, go_sem, e25, ycl_], Below.refl _ _, rfl⟩
      | 6, ho =>
        injection ho with ho; subst ho
        have e21 : a_.tmps[21]?.getD undef = .agg #[.string a.kind, .string a.name, .slice aa a.lines.length ac] := (RY.ev_tmp a_ 21).trans (hd 0 _ 21 rfl rfl ⟨⟨0, .data⟩, by simp, rfl, rfl⟩)
        have e26 : a_.tmps[26]?.getD undef = .string ru.key := (RY.ev_tmp a_ 26).trans (hd 5 _ 26 rfl rfl ⟨⟨5, .data⟩, by simp, rfl, rfl⟩)
        refine Or.inr ⟨32, #[.agg #[.string a.kind, .string a.name, .slice aa a.lines.length ac], .string ru.key], by simp [go_sem, e21, e26], (HCA.out X hX).mono ?_⟩
        rintro e W' ⟨v, F, rfl, r, nd, fr, hb⟩
        obtain ⟨x1, x2, hx⟩ := r.raw.len0
        subst hx
        exact ⟨_, rfl, hb, x1, x2, F, rfl, r, nd, fun b hb2 => Nat.le_trans hX.size (fr b hb2)⟩
      | 7, ho =>
        injection ho with ho; subst ho
        obtain ⟨y1, y2, F27, q27, hR27, hF27⟩ := hd 6 _ 27 rfl rfl ⟨⟨6, .data⟩, by simp, rfl, rfl⟩
        have e27 : a_.tmps[27]?.getD undef = .slice y1 xl.length y2 := (RY.ev_tmp a_ 27).trans q27
        exact Or.inl ⟨_, X, by simp [execOp, go_sem, e27], Below.refl _ _, y1, y2, F27, rfl, hR27, hF27⟩
      | n + 8, ho => simp at ho
    intro Xa vs hX hvs
    obtain ⟨Xaa, Xac, XaF, Xae, Xar, Xan, Xaf⟩ := hvs 7 _ 8 rfl rfl
    simp only [RY.putAll, Act.put, List.setIfInBounds_toArray, List.set_cons_zero, List.set_cons_succ]
    rw [Xae]
    generalize vs 21 = s21
    generalize vs 22 = s22
    generalize vs 23 = s23
    generalize vs 24 = s24
    generalize vs 25 = s25
    generalize vs 26 = s26
    generalize vs 27 = s27
    clear hvs Xae
    have HB0 := uh (HKW.out.bb.later hX)
    replace HA0 := uh (HA0.out.later hX)
    replace HKW := uh (HKW.out.later hX)
    replace HGr := uh (HGr.out.later hX)
    replace HGX := uh (rA_later HGX.out HPZ.out hX)
    replace HPZ := uh (Nat.lt_of_lt_of_le HPZ.out hX.size)
    have HCB : Hid (∀ X, Below Xa.heap.size Xa X → Calls Try.prog 32 #[.agg #[.string b.kind, .string b.name, .slice ba b.lines.length bc], .string ru.key] X (AnsL shLns (lnsD yl) X)) := fun X hX2 => HCB0.out X (blw_trans hX hX2)
    have HXR := uh Xar.raw
    have HSA : Hid (wr.heap.size ≤ Xa.heap.size) := hX.size
    clear HCA HCB0 Xar Xan Xaf hX
    go_upto_region 7 with fail
    refine RY.region_past Xa (Below.refl _ _) (VBf rp ro n rc k Xa.heap.size b ru ba bc yl) (VBf_mono _ _ _ _ _ _ _ _ _ _ _) (by kernel_rfl) (by kernel_rfl) (by kernel_rfl) (by kernel_rfl) ?_ ?_
    · intro ii o' ho a_ X hX hk hd
      have z_b0___1_ := HB0.out.later hX
      have z_b0___1_l := z_b0___1_.lt
      match ii, ho with
      | 0, ho =>
        injection ho with ho; subst ho
        have v3 : a_.eval (.tmp 3) = .pointer (some ⟨(b0 + 1), 0, none⟩) := (hk 3 (by kernel_rfl)).trans rfl
        exact Or.inl ⟨_, X, exec_load_mid 42 _ rfl (b0 + 1) 0 v3 [.string b.kind, .string b.name, .slice ba b.lines.length bc] _ z_b0___1_.at_ Try.underlying42 rfl (by kernel_rfl), Below.refl _ _, rfl⟩
      | 1, ho =>
        injection ho with ho; subst ho
        have e6 : a_.tmps[6]?.getD undef = .slice (some ⟨rp, ro, none⟩) n rc := (RY.ev_tmp a_ 6).trans ((hk 6 (by kernel_rfl)).trans rfl)
        exact Or.inl ⟨.slice (some ⟨rp, ro, none⟩) n rc, X, by simp [execOp, go_sem, e6], Below.refl _ _, rfl⟩
      | 2, ho =>
        injection ho with ho; subst ho
        have e7 : a_.tmps[7]?.getD undef = .int .i64 (k : Int) := (RY.ev_tmp a_ 7).trans ((hk 7 (by kernel_rfl)).trans rfl)
        exact Or.inl ⟨.int .i64 (k : Int), X, by simp [execOp, go_sem, e7], Below.refl _ _, rfl⟩
      | 3, ho =>
        injection ho with ho; subst ho
        have e29 : a_.tmps[29]?.getD undef = .slice (some ⟨rp, ro, none⟩) n rc := (RY.ev_tmp a_ 29).trans (hd 1 _ 29 rfl rfl ⟨⟨1, .data⟩, by simp, rfl, rfl⟩)
        have e30 : a_.tmps[30]?.getD undef = .int .i64 (k : Int) := (RY.ev_tmp a_ 30).trans (hd 2 _ 30 rfl rfl ⟨⟨2, .data⟩, by simp, rfl, rfl⟩)
        exact Or.inl ⟨.pointer (some ⟨rp, ro + k * 4, none⟩), X, by simp [execOp, go_sem, e29, e30, hk0, hkn], Below.refl _ _, rfl⟩
      | 4, ho =>
        injection ho with ho; subst ho
        have e31 : a_.tmps[31]?.getD undef = .pointer (some ⟨rp, ro + k * 4, none⟩) := (RY.ev_tmp a_ 31).trans (hd 3 _ 31 rfl rfl ⟨⟨3, .data⟩, by simp, rfl, rfl⟩)
        exact Or.inl ⟨.pointer (some ⟨rp, ro + k * 4, none⟩), X, by simp [execOp, go_sem, e31], Below.refl _ _, rfl⟩
      | 5, ho =>
        injection ho with ho; subst ho
        have e32 : a_.tmps[32]?.getD undef = .pointer (some ⟨rp, ro + k * 4, none⟩) := (RY.ev_tmp a_ 32).trans (hd 4 _ 32 rfl rfl ⟨⟨4, .data⟩, by simp, rfl, rfl⟩)
        have ypl_ := Nat.lt_of_lt_of_le HPZ.out hX.size
        have ycl_ : X.cell? ⟨rp, ro + k * 4, none⟩ = some (.string ru.key) := by have q := rA_get (rA_later HGX.out HPZ.out hX) 0 _ rfl; simpa using q
        exact Or.inl ⟨.string ru.key, X, by simp [execOp, go_sem, e32, ycl_], Below.refl _ _, rfl⟩
      | 6, ho =>
        injection ho with ho; subst ho
        have e28 : a_.tmps[28]?.getD undef = .agg #[.string b.kind, .string b.name, .slice ba b.lines.length bc] := (RY.ev_tmp a_ 28).trans (hd 0 _ 28 rfl rfl ⟨⟨0, .data⟩, by simp, rfl, rfl⟩)
        have e33 : a_.tmps[33]?.getD undef = .string ru.key := (RY.ev_tmp a_ 33).trans (hd 5 _ 33 rfl rfl ⟨⟨5, .data⟩, by simp, rfl, rfl⟩)
        refine Or.inr ⟨32, #[.agg #[.string b.kind, .string b.name, .slice ba b.lines.length bc], .string ru.key], by simp [go_sem, e28, e33], (HCB.out X hX).mono ?_⟩
        rintro e W' ⟨v, F, rfl, r, nd, fr, hb⟩
        obtain ⟨x1, x2, hx⟩ := r.raw.len0
        subst hx
        exact ⟨_, rfl, hb, x1, x2, F, rfl, r, nd, fun b hb2 => Nat.le_trans hX.size (fr b hb2)⟩
      | 7, ho =>
        injection ho with ho; subst ho
        obtain ⟨y1, y2, F34, q34, hR34, hF34⟩ := hd 6 _ 34 rfl rfl ⟨⟨6, .data⟩, by simp, rfl, rfl⟩
        have e34 : a_.tmps[34]?.getD undef = .slice y1 yl.length y2 := (RY.ev_tmp a_ 34).trans q34
        exact Or.inl ⟨_, X, by simp [execOp, go_sem, e34], Below.refl _ _, y1, y2, F34, rfl, hR34, hF34⟩
      | n + 8, ho => simp at ho
    intro Xb vs hX hvs
    obtain ⟨Xba, Xbc, XbF, Xbe, Xbr, Xbn, Xbf⟩ := hvs 7 _ 9 rfl rfl
    simp only [RY.putAll, Act.put, List.setIfInBounds_toArray, List.set_cons_zero, List.set_cons_succ]
    rw [Xbe]
    generalize vs 28 = s28
    generalize vs 29 = s29
    generalize vs 30 = s30
    generalize vs 31 = s31
    generalize vs 32 = s32
    generalize vs 33 = s33
    generalize vs 34 = s34
    clear hvs Xbe
    replace HA0 := uh (HA0.out.later hX)
    replace HKW := uh (HKW.out.later hX)
    replace HGr := uh (HGr.out.later hX)
    replace HGX := uh (rA_later HGX.out HPZ.out hX)
    replace HPZ := uh (Nat.lt_of_lt_of_le HPZ.out hX.size)
    replace HXR := uh (HXR.out.later hX)
    have HY0 : Hid (Rep Xb false shLns XbF [lnsD yl] [.slice Xba yl.length Xbc] ∧ XbF.Nodup ∧ ∀ b ∈ XbF, wr.heap.size ≤ b) := ⟨Xbr, Xbn, fun b hb => Nat.le_trans HSA.out (Xbf b hb)⟩
    have HSB : Hid (wr.heap.size ≤ Xb.heap.size) := Nat.le_trans HSA.out hX.size
    have HCS := uh (l43SameS xl yl (.slice Xaa xl.length Xac) (.slice Xba yl.length Xbc) Xb HXR.out HY0.out.1.raw)
    clear HCB Xbr Xbn Xbf hX HB0
    obtain ⟨sm, hsm⟩ : ∃ sm, sm = Pl.sameLns xl yl := ⟨_, rfl⟩
    rw [← hsm] at HCS HKC
    clear hsm
    go_wp2_with fail
    refine HCS.out.mono ?_
    rintro e w8 ⟨rfl, hb8⟩
    replace HA0 := uh (HA0.out.later hb8)
    replace HKW := uh (HKW.out.later hb8)
    replace HGr := uh (HGr.out.later hb8)
    replace HGX := uh (rA_later HGX.out HPZ.out hb8)
    replace HPZ := uh (Nat.lt_of_lt_of_le HPZ.out hb8.size)
    have HY : Hid (Rep w8 false shLns XbF [lnsD yl] [.slice Xba yl.length Xbc] ∧ XbF.Nodup ∧ ∀ b ∈ XbF, wr.heap.size ≤ b) := ⟨HY0.out.1.later hb8, HY0.out.2⟩
    have HS0 : Hid (w.heap.size ≤ wr.heap.size ∧ wr.heap.size ≤ w8.heap.size) := ⟨HSW.out, Nat.le_trans HSB.out hb8.size⟩
    clear hb8 HCS HXR HY0
    cases sm
    rotate_left
    · have HE : Hid ((rs.take (k + 1)).flatMap (Pl.keyCh a b) = ac0) := by show _ = _; rw [HTK.out, List.flatMap_append, List.flatMap_singleton, ← HAC.out, HKC.out]; simp
      go_wp2
      go_roundw
      case rel => exact ⟨k + 1, G, xs, by omega, by go_num, by rw [HE.out]; exact HGr.out, HKW.out⟩
      case measure => simp [intOf]; omega
    replace HKC : Hid (Pl.keyCh a b ru = [⟨if yl.length = 0 then 4 else 3, a.kind, a.name, ru.key, yl⟩]) := HKC.out
    have HTL : Hid ((rs.take (k + 1)).flatMap (Pl.keyCh a b) = ac0 ++ [⟨if yl.length = 0 then 4 else 3, a.kind, a.name, ru.key, yl⟩]) := by show _ = _; rw [HTK.out, List.flatMap_append, List.flatMap_singleton, ← HAC.out, HKC.out]
    go_upto_region 9 with fail
    refine RY.region_nw w8 (Below.refl _ _) (VBg b0 rp ro n rc k a ru Xba Xbc yl) (VBg_mono _ _ _ _ _ _ _ _ _ _ _) (VBg_na _ _ _ _ _ _ _ _ _ _ _) (fun vals W' => ∃ q, vals 11 = .pointer (some ⟨q, 0, none⟩) ∧ w8.heap.size ≤ q ∧ Below w8.heap.size w8 W' ∧ WBox W' q 44 [.int .i64 3, .string a.kind, .string a.name, .string ru.key, .slice Xba yl.length Xbc]) 12 12 (by kernel_rfl) (by kernel_rfl) (by kernel_rfl) (by kernel_rfl) rfl [10, 11] (by kernel_rfl) (by kernel_rfl) _ rfl rfl (by kernel_rfl) 11 10 _ rfl rfl (by decide) 44 [.int .i64 0, .string { data := #[] }, .string { data := #[] }, .string { data := #[] }, .slice none 0 0] ?_ ?_ ?_ ?_
    · intro a_ Wx
      kernel_rfl
    · intro ii o' ho hii hia a_ X A_ hX hAq hk hd
      have zb0 := HA0.out.later hX
      have zb0l := zb0.lt
      match ii, ho with
      | 0, ho =>
        injection ho with ho; subst ho
        have e2 : a_.tmps[2]?.getD undef = .pointer (some ⟨b0, 0, none⟩) := (RY.ev_tmp a_ 2).trans ((hk 2 (by kernel_rfl)).trans rfl)
        exact Or.inl ⟨.pointer (some ⟨b0, 0, none⟩), X, by simp [execOp, go_sem, e2], Below.refl _ _, rfl⟩
      | 1, ho =>
        injection ho with ho; subst ho
        have e38 : a_.tmps[38]?.getD undef = .pointer (some ⟨b0, 0, none⟩) := (RY.ev_tmp a_ 38).trans (hd 0 _ 38 rfl rfl ⟨⟨0, .data⟩, by simp, rfl, rfl⟩ (by decide) (by decide))
        have ycl_ := zb0.get 0 _ rfl
        exact Or.inl ⟨.string a.kind, X, by simp [execOp, go_sem, e38, ycl_], Below.refl _ _, rfl⟩
      | 2, ho =>
        injection ho with ho; subst ho
        have e2 : a_.tmps[2]?.getD undef = .pointer (some ⟨b0, 0, none⟩) := (RY.ev_tmp a_ 2).trans ((hk 2 (by kernel_rfl)).trans rfl)
        exact Or.inl ⟨.pointer (some ⟨b0, 1, none⟩), X, by simp [execOp, go_sem, e2], Below.refl _ _, rfl⟩
      | 3, ho =>
        injection ho with ho; subst ho
        have e40 : a_.tmps[40]?.getD undef = .pointer (some ⟨b0, 1, none⟩) := (RY.ev_tmp a_ 40).trans (hd 2 _ 40 rfl rfl ⟨⟨2, .data⟩, by simp, rfl, rfl⟩ (by decide) (by decide))
        have ycl_ := zb0.get 1 _ rfl
        exact Or.inl ⟨.string a.name, X, by simp [execOp, go_sem, e40, ycl_], Below.refl _ _, rfl⟩
      | 4, ho =>
        injection ho with ho; subst ho
        have e6 : a_.tmps[6]?.getD undef = .slice (some ⟨rp, ro, none⟩) n rc := (RY.ev_tmp a_ 6).trans ((hk 6 (by kernel_rfl)).trans rfl)
        exact Or.inl ⟨.slice (some ⟨rp, ro, none⟩) n rc, X, by simp [execOp, go_sem, e6], Below.refl _ _, rfl⟩
      | 5, ho =>
        injection ho with ho; subst ho
        have e7 : a_.tmps[7]?.getD undef = .int .i64 (k : Int) := (RY.ev_tmp a_ 7).trans ((hk 7 (by kernel_rfl)).trans rfl)
        exact Or.inl ⟨.int .i64 (k : Int), X, by simp [execOp, go_sem, e7], Below.refl _ _, rfl⟩
      | 6, ho =>
        injection ho with ho; subst ho
        have e42 : a_.tmps[42]?.getD undef = .slice (some ⟨rp, ro, none⟩) n rc := (RY.ev_tmp a_ 42).trans (hd 4 _ 42 rfl rfl ⟨⟨4, .data⟩, by simp, rfl, rfl⟩ (by decide) (by decide))
        have e43 : a_.tmps[43]?.getD undef = .int .i64 (k : Int) := (RY.ev_tmp a_ 43).trans (hd 5 _ 43 rfl rfl ⟨⟨5, .data⟩, by simp, rfl, rfl⟩ (by decide) (by decide))
        exact Or.inl ⟨.pointer (some ⟨rp, ro + k * 4, none⟩), X, by simp [execOp, go_sem, e42, e43, hk0, hkn], Below.refl _ _, rfl⟩
      | 7, ho =>
        injection ho with ho; subst ho
        have e44 : a_.tmps[44]?.getD undef = .pointer (some ⟨rp, ro + k * 4, none⟩) := (RY.ev_tmp a_ 44).trans (hd 6 _ 44 rfl rfl ⟨⟨6, .data⟩, by simp, rfl, rfl⟩ (by decide) (by decide))
        exact Or.inl ⟨.pointer (some ⟨rp, ro + k * 4, none⟩), X, by simp [execOp, go_sem, e44], Below.refl _ _, rfl⟩
      | 8, ho =>
        injection ho with ho; subst ho
        have e45 : a_.tmps[45]?.getD undef = .pointer (some ⟨rp, ro + k * 4, none⟩) := (RY.ev_tmp a_ 45).trans (hd 7 _ 45 rfl rfl ⟨⟨7, .data⟩, by simp, rfl, rfl⟩ (by decide) (by decide))
        have ypl_ := Nat.lt_of_lt_of_le HPZ.out hX.size
        have ycl_ : X.cell? ⟨rp, ro + k * 4, none⟩ = some (.string ru.key) := by have q := rA_get (rA_later HGX.out HPZ.out hX) 0 _ rfl; simpa using q
        exact Or.inl ⟨.string ru.key, X, by simp [execOp, go_sem, e45, ycl_], Below.refl _ _, rfl⟩
      | 9, ho =>
        injection ho with ho; subst ho
        have e9 : a_.tmps[9]?.getD undef = .slice Xba yl.length Xbc := (RY.ev_tmp a_ 9).trans ((hk 9 (by kernel_rfl)).trans rfl)
        exact Or.inl ⟨.slice Xba yl.length Xbc, X, by simp [execOp, go_sem, e9], Below.refl _ _, rfl⟩
      | 10, ho =>
        injection ho with ho; subst ho
        have e39 : a_.tmps[39]?.getD undef = .string a.kind := (RY.ev_tmp a_ 39).trans (hd 1 _ 39 rfl rfl ⟨⟨1, .data⟩, by simp, rfl, rfl⟩ (by decide) (by decide))
        have e41 : a_.tmps[41]?.getD undef = .string a.name := (RY.ev_tmp a_ 41).trans (hd 3 _ 41 rfl rfl ⟨⟨3, .data⟩, by simp, rfl, rfl⟩ (by decide) (by decide))
        have e46 : a_.tmps[46]?.getD undef = .string ru.key := (RY.ev_tmp a_ 46).trans (hd 8 _ 46 rfl rfl ⟨⟨8, .data⟩, by simp, rfl, rfl⟩ (by decide) (by decide))
        have e47 : a_.tmps[47]?.getD undef = .slice Xba yl.length Xbc := (RY.ev_tmp a_ 47).trans (hd 9 _ 47 rfl rfl ⟨⟨9, .data⟩, by simp, rfl, rfl⟩ (by decide) (by decide))
        exact Or.inl ⟨.agg #[.int .i64 3, .string a.kind, .string a.name, .string ru.key, .slice Xba yl.length Xbc], X, by simp [execOp, go_sem, e39, e41, e46, e47], Below.refl _ _, rfl⟩
      | 11, ho =>
        exact absurd rfl hia
      | n + 12, ho => omega
    · intro a_ X vals q hX hk hqv hq hown hV hd
      have t48 : a_.eval (.tmp 48) = _ := (hd 10 _ 48 rfl rfl ⟨⟨10, .data⟩, by simp, rfl, rfl⟩ (by decide)).trans (hV 10 (by decide) (by decide))
      have t10 : a_.eval (.tmp 10) = _ := (hd 11 _ 10 rfl rfl ⟨⟨11, .data⟩, by simp, rfl, rfl⟩ (by decide)).trans hqv
      have hth : X.there q 0 5 := uthere hown _ _ (by simp)
      exact ⟨X.setCells q 0 [.int .i64 3, .string a.kind, .string a.name, .string ru.key, .slice Xba yl.length Xbc], RY.exec_store_mid _ _ _ rfl t10 t48 hth (by kernel_rfl) (by simp [Value.oneCell']), q, hqv, hq, blw_scs hq _ _ _ hX, own_scs _ _ _ hown, World.rangeAt_setCells_same _ _ _ _ hth⟩
    · intro vals vs X hK hvs
      simp only [RY.putAll, Act.put, List.setIfInBounds_toArray, List.set_cons_zero, List.set_cons_succ]
      have q10 := hvs 11 _ 10 rfl rfl
      generalize vs 38 = s38
      generalize vs 39 = s39
      generalize vs 40 = s40
      generalize vs 41 = s41
      generalize vs 42 = s42
      generalize vs 43 = s43
      generalize vs 44 = s44
      generalize vs 45 = s45
      generalize vs 46 = s46
      generalize vs 47 = s47
      generalize vs 48 = s48
      clear hvs
      obtain ⟨q, e10, hqq, hBq, hQ⟩ := hK
      rw [q10, e10]
      clear q10 e10
      have HSZ : Hid (w.heap.size ≤ wr.heap.size ∧ wr.heap.size ≤ X.heap.size) := ⟨HS0.out.1, Nat.le_trans HS0.out.2 hBq.size⟩
      have HKV := HKW
      have HGV := HGr
      have HYV := HY
      replace HKW := uh (HKW.out.later hBq)
      replace HGr := uh (HGr.out.later hBq)
      replace HY : Hid (Rep X false shLns XbF [lnsD yl] [.slice Xba yl.length Xbc] ∧ XbF.Nodup ∧ ∀ b ∈ XbF, wr.heap.size ≤ b) := ⟨HY.out.1.later hBq, HY.out.2⟩
      obtain ⟨m, hm⟩ : ∃ m, m = yl.length := ⟨_, rfl⟩
      have HM := uh hm
      by_cases h0 : yl.length = 0
      rotate_left
      · have hi0 : ¬ ((yl.length : Int) = 0) := by omega
        have HEL : Hid ((if yl.length = 0 then (4 : Int) else 3) = 3) := by show _ = _; rw [if_neg h0]
        obtain ⟨w9, hw9⟩ : ∃ w9, w9 = X := ⟨_, rfl⟩
        rw [← hw9] at HSZ HKW HGr HY hQ ⊢
        have HQ := uh hQ
        clear hw9 hQ hBq h0 hm
        have hqa := HQ.out.at_
        have hql := HQ.out.own.lt
        obtain ⟨wb, hwb⟩ : ∃ wb, wb = w9.alloc (.cells #[.int .i64 3, .string a.kind, .string a.name, .string ru.key, .slice Xba yl.length Xbc] 44) := ⟨_, rfl⟩
        have hbb : Below w9.heap.size w9 wb := by rw [hwb]; exact blw_alloc (Below.refl _ _) _
        have hr1 : Rep wb false shChs (w9.heap.size :: ((XbF ++ []) ++ [])) [.row 1 (chD ⟨3, a.kind, a.name, ru.key, yl⟩)] [.slice (some ⟨w9.heap.size, 0, none⟩) 1 1] := by
          rw [hwb]
          exact rep1 (cs := #[.int .i64 3, .string a.kind, .string a.name, .string ru.key, .slice Xba yl.length Xbc]) (repSheetChange_mk _ _ _ _ HY.out.1)
        obtain ⟨u, W2, G', xs', hrun, hgr, hgw, hub⟩ := gr_app (P := Try.prog) w.heap.size 26 26 44 5 80 _ Try.under_chs Try.info_ch rfl (by decide) (by decide) shSheetChange rfl (HGr.out.later hbb) hr1 (by
          rw [List.append_nil, List.append_nil, List.nodup_cons]
          exact ⟨fun h => by have := HY.out.1.lt _ h; omega, HY.out.2.1⟩) (fun b hb => by
          rw [List.append_nil, List.append_nil] at hb
          have key : wr.heap.size ≤ b := by
            rcases List.mem_cons.1 hb with e | e
            · rw [e]; exact HSZ.out.2
            · exact HY.out.2.2 b e
          exact ⟨Nat.le_trans HSZ.out.1 key, fun hq => by have := HGL.out b hq; omega, fun hq => by have := HVL.out b hq; omega⟩) (by omega) (Nat.le_trans HKW.out.bel.size hbb.size)
        obtain ⟨ux, uy, hux⟩ := hgr.shape
        subst hux
        have HK3 := uh ((HKW.out.later hbb).grown hgw hub)
        have HG3 : Hid (Gr W2 w.heap.size 44 shSheetChange (.slice ux (ac0.length + 1) uy) ((rs.take (k + 1)).flatMap (Pl.keyCh a b)).length G' (((rs.take (k + 1)).flatMap (Pl.keyCh a b)).flatMap chD) xs') := by
          show Gr _ _ _ _ _ _ _ _ _
          rw [HTL.out, HEL.out, List.length_append, List.flatMap_append, List.flatMap_singleton]
          exact hgr
        rw [hwb] at hrun
        clear hr1 hgr hgw hbb hwb hub
        go_wp2_with (first | (refine wpList_load_mid rfl 44 _ rfl q 0 rfl [.int .i64 3, .string a.kind, .string a.name, .string ru.key, .slice Xba yl.length Xbc] _ hqa Try.underlying44 rfl (by kernel_rfl) ?_) | (at_builtin; refine Go.Lib.wpList_append_run _ rfl _ _ 26 26 rfl _ _ rfl rfl _ W2 hrun ?_))
        clear hrun
        go_roundw
        case rel => exact ⟨k + 1, G', xs', by omega, by go_num, HG3.out, HK3.out⟩
        case measure => simp [intOf]; omega
      have HEL : Hid ((if yl.length = 0 then (4 : Int) else 3) = 4) := by show _ = _; rw [if_pos h0]
      have HLZ : Hid (yl = []) := List.eq_nil_of_length_eq_zero h0
      have hxf := hQ.own.frozen 0
      have hxc := hQ.get 0 _ rfl
      have hxl := hQ.own.lt
      obtain ⟨w9, hw9⟩ : ∃ w9, w9 = X.setCell ⟨q, 0, none⟩ (.int .i64 4) := ⟨_, rfl⟩
      have hb9 : Below w8.heap.size w8 w9 := by rw [hw9]; exact hBq.setCell (p := ⟨q, 0, none⟩) hqq _
      have HQ : Hid (WBox w9 q 44 [.int .i64 4, .string a.kind, .string a.name, .string ru.key, .slice Xba yl.length Xbc]) := by show WBox _ _ _ _; rw [hw9]; exact hQ.set 0 _ (by simp)
      have hm9 : Marks (fun b => b = q) X w9 := by rw [hw9]; exact Marks.sc (S := fun b => b = q) X rfl _ _
      replace HKW := uh (HKV.out.later hb9)
      replace HGr := uh (HGV.out.later hb9)
      replace HY : Hid (Rep w9 false shLns XbF [lnsD yl] [.slice Xba yl.length Xbc] ∧ XbF.Nodup ∧ ∀ b ∈ XbF, wr.heap.size ≤ b) := ⟨HYV.out.1.later hb9, HYV.out.2⟩
      replace HSZ : Hid (w.heap.size ≤ wr.heap.size ∧ wr.heap.size ≤ w9.heap.size) := ⟨HS0.out.1, Nat.le_trans HS0.out.2 hb9.size⟩
      have hi0 : (m : Int) = 0 := by omega
      rw [← hm]
      go_upto_region 12 with fail
      rw [← hw9]
      rw [hm]
      clear hw9 hQ hBq hb9 hm9 hxf hxc hxl h0 hm hi0
      have hqa := HQ.out.at_
      have hql := HQ.out.own.lt
      obtain ⟨wb, hwb⟩ : ∃ wb, wb = w9.alloc (.cells #[.int .i64 4, .string a.kind, .string a.name, .string ru.key, .slice Xba yl.length Xbc] 44) := ⟨_, rfl⟩
      have hbb : Below w9.heap.size w9 wb := by rw [hwb]; exact blw_alloc (Below.refl _ _) _
      have hr1 : Rep wb false shChs (w9.heap.size :: ((XbF ++ []) ++ [])) [.row 1 (chD ⟨4, a.kind, a.name, ru.key, yl⟩)] [.slice (some ⟨w9.heap.size, 0, none⟩) 1 1] := by
        rw [hwb]
        exact rep1 (cs := #[.int .i64 4, .string a.kind, .string a.name, .string ru.key, .slice Xba yl.length Xbc]) (repSheetChange_mk _ _ _ _ HY.out.1)
      obtain ⟨u, W2, G', xs', hrun, hgr, hgw, hub⟩ := gr_app (P := Try.prog) w.heap.size 26 26 44 5 80 _ Try.under_chs Try.info_ch rfl (by decide) (by decide) shSheetChange rfl (HGr.out.later hbb) hr1 (by
        rw [List.append_nil, List.append_nil, List.nodup_cons]
        exact ⟨fun h => by have := HY.out.1.lt _ h; omega, HY.out.2.1⟩) (fun b hb => by
        rw [List.append_nil, List.append_nil] at hb
        have key : wr.heap.size ≤ b := by
          rcases List.mem_cons.1 hb with e | e
          · rw [e]; exact HSZ.out.2
          · exact HY.out.2.2 b e
        exact ⟨Nat.le_trans HSZ.out.1 key, fun hq => by have := HGL.out b hq; omega, fun hq => by have := HVL.out b hq; omega⟩) (by omega) (Nat.le_trans HKW.out.bel.size hbb.size)
      obtain ⟨ux, uy, hux⟩ := hgr.shape
      subst hux
      have HK3 := uh ((HKW.out.later hbb).grown hgw hub)
      have HG3 : Hid (Gr W2 w.heap.size 44 shSheetChange (.slice ux (ac0.length + 1) uy) ((rs.take (k + 1)).flatMap (Pl.keyCh a b)).length G' (((rs.take (k + 1)).flatMap (Pl.keyCh a b)).flatMap chD) xs') := by
        show Gr _ _ _ _ _ _ _ _ _
        rw [HTL.out, HEL.out, List.length_append, List.flatMap_append, List.flatMap_singleton]
        exact hgr
      rw [hwb] at hrun
      clear hr1 hgr hgw hbb hwb hub
      go_wp2_with (first | (refine wpList_load_mid rfl 44 _ rfl q 0 rfl [.int .i64 4, .string a.kind, .string a.name, .string ru.key, .slice Xba yl.length Xbc] _ hqa Try.underlying44 rfl (by kernel_rfl) ?_) | (at_builtin; refine Go.Lib.wpList_append_run _ rfl _ _ 26 26 rfl _ _ rfl rfl _ W2 hrun ?_))
      clear hrun
      go_roundw
      case rel => exact ⟨k + 1, G', xs', by omega, by go_num, HG3.out, HK3.out⟩
      case measure => simp [intOf]; omega

end Go.Proofs.Ytojcopamegmeeaa
