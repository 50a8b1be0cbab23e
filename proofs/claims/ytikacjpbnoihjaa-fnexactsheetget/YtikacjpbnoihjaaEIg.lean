/-
  Sheets: binary search of blocks and of lines: the program.
-/
import Derived.Test.YtikacjpbnoihjaaEIo
import Derived.Test.YtikacjpbnoihjaaRgG
namespace Go.Proofs.Ytikacjpbnoihjaa
open Go.RowKit Go.Deep

theorem Pl.ret_nb {n : Nat} {a b : Bool} (h : a = b) : Ending.returned (.tuple #[.int .i64 (n : Nat), .bool a]) = .returned (.tuple #[.int .i64 (n : Nat), .bool b]) := by rw [h]
def VNbe (p : Nat) (o : Nat) (c : Nat) (b : Nat) (n : Nat) (x : Pl.Bl) (t : Pl.Bl) (ax : Option Addr) (cx : Nat) (r : Int) : Nat → Value → World → Prop
  | 0, vv, _ => vv = .int .i64 (b : Int)
  | 1, vv, _ => vv = .int .i64 (b : Int)
  | 2, vv, _ => vv = .int .i64 (n : Int)
  | 3, vv, _ => vv = .bool true
  | 4, vv, _ => vv = .bool true
  | 5, vv, _ => vv = .func (.func 22) #[] #[]
  | 6, vv, _ => vv = .slice (some ⟨p, o, none⟩) n c
  | 7, vv, _ => vv = .int .i64 (b : Int)
  | 8, vv, _ => vv = .pointer (some ⟨p, o + b * 3, none⟩)
  | 9, vv, _ => vv = .agg #[.string x.kind, .string x.name, .slice ax x.lines.length cx]
  | 10, vv, _ => vv = .agg #[.string t.kind, .string t.name, .slice none 0 0]
  | 11, vv, _ => vv = .int .i64 r
  | 12, vv, _ => vv = .bool true
  | 13, vv, _ => vv = .bool true
  | 14, vv, _ => vv = .int .i64 (b : Int)
  | 15, vv, _ => vv = .bool true
  | _, _, _ => True
theorem VNbe_mono (p : Nat) (o : Nat) (c : Nat) (b : Nat) (n : Nat) (x : Pl.Bl) (t : Pl.Bl) (ax : Option Addr) (cx : Nat) (r : Int) : ∀ jj vv W W', Below W.heap.size W W' → VNbe p o c b n x t ax cx r jj vv W → VNbe p o c b n x t ax cx r jj vv W' := by
  intro jj vv W W' hb h
  match jj with
  | 0 => exact h
  | 1 => exact h
  | 2 => exact h
  | 3 => exact h
  | 4 => exact h
  | 5 => exact h
  | 6 => exact h
  | 7 => exact h
  | 8 => exact h
  | 9 => exact h
  | 10 => exact h
  | 11 => exact h
  | 12 => exact h
  | 13 => exact h
  | 14 => exact h
  | 15 => exact h
  | n + 16 => exact trivial
def VNbn (p : Nat) (o : Nat) (c : Nat) (b : Nat) (n : Nat) (x : Pl.Bl) (t : Pl.Bl) (ax : Option Addr) (cx : Nat) (r : Int) : Nat → Value → World → Prop
  | 0, vv, _ => vv = .int .i64 (b : Int)
  | 1, vv, _ => vv = .int .i64 (b : Int)
  | 2, vv, _ => vv = .int .i64 (n : Int)
  | 3, vv, _ => vv = .bool true
  | 4, vv, _ => vv = .bool true
  | 5, vv, _ => vv = .func (.func 22) #[] #[]
  | 6, vv, _ => vv = .slice (some ⟨p, o, none⟩) n c
  | 7, vv, _ => vv = .int .i64 (b : Int)
  | 8, vv, _ => vv = .pointer (some ⟨p, o + b * 3, none⟩)
  | 9, vv, _ => vv = .agg #[.string x.kind, .string x.name, .slice ax x.lines.length cx]
  | 10, vv, _ => vv = .agg #[.string t.kind, .string t.name, .slice none 0 0]
  | 11, vv, _ => vv = .int .i64 r
  | 12, vv, _ => vv = .bool false
  | 13, vv, _ => vv = .bool false
  | 14, vv, _ => vv = .int .i64 (b : Int)
  | 15, vv, _ => vv = .bool false
  | _, _, _ => True
theorem VNbn_mono (p : Nat) (o : Nat) (c : Nat) (b : Nat) (n : Nat) (x : Pl.Bl) (t : Pl.Bl) (ax : Option Addr) (cx : Nat) (r : Int) : ∀ jj vv W W', Below W.heap.size W W' → VNbn p o c b n x t ax cx r jj vv W → VNbn p o c b n x t ax cx r jj vv W' := by
  intro jj vv W W' hb h
  match jj with
  | 0 => exact h
  | 1 => exact h
  | 2 => exact h
  | 3 => exact h
  | 4 => exact h
  | 5 => exact h
  | 6 => exact h
  | 7 => exact h
  | 8 => exact h
  | 9 => exact h
  | 10 => exact h
  | 11 => exact h
  | 12 => exact h
  | 13 => exact h
  | 14 => exact h
  | 15 => exact h
  | n + 16 => exact trivial
def VNbo (b : Nat) (n : Nat) : Nat → Value → World → Prop
  | 0, vv, _ => vv = .int .i64 (b : Int)
  | 1, vv, _ => vv = .int .i64 (b : Int)
  | 2, vv, _ => vv = .int .i64 (n : Int)
  | 3, vv, _ => vv = .bool false
  | 4, vv, _ => vv = .bool false
  | 5, vv, _ => vv = undef
  | 6, vv, _ => vv = undef
  | 7, vv, _ => vv = undef
  | 8, vv, _ => vv = undef
  | 9, vv, _ => vv = undef
  | 10, vv, _ => vv = undef
  | 11, vv, _ => vv = undef
  | 12, vv, _ => vv = undef
  | 13, vv, _ => vv = .bool false
  | 14, vv, _ => vv = .int .i64 (b : Int)
  | 15, vv, _ => vv = .bool false
  | _, _, _ => True
theorem VNbo_mono (b : Nat) (n : Nat) : ∀ jj vv W W', Below W.heap.size W W' → VNbo b n jj vv W → VNbo b n jj vv W' := by
  intro jj vv W W' hb h
  match jj with
  | 0 => exact h
  | 1 => exact h
  | 2 => exact h
  | 3 => exact h
  | 4 => exact h
  | 5 => exact h
  | 6 => exact h
  | 7 => exact h
  | 8 => exact h
  | 9 => exact h
  | 10 => exact h
  | 11 => exact h
  | 12 => exact h
  | 13 => exact h
  | 14 => exact h
  | 15 => exact h
  | n + 16 => exact trivial

set_option maxRecDepth 8000 in
set_option maxHeartbeats 16000000 in
theorem binBl  (L : List Pl.Bl) (v : Value) (t : Pl.Bl) (q : Nat) (w : World)  (h : Raw w shBls [blsD L] [v])  (hln : L.length ≤ 1048576) (hq : q ≤ L.length) (h1 : ∀ i, i < q → cmpBl (L.getD i Pl.blNo) t < 0) (h2 : ∀ i, q ≤ i → i < L.length → 0 ≤ cmpBl (L.getD i Pl.blNo) t) :
    Calls Try.prog 21 #[v, .agg #[.string t.kind, .string t.name, .slice none 0 0], .func (.func 22) #[] #[]] w fun e w' => e = .returned (.tuple #[.int .i64 (q : Nat), .bool (decide (q < L.length) && decide (cmpBl (L.getD q Pl.blNo) t = 0))]) ∧ Below w.heap.size w w' := by
  have HH := uh (And.intro h (And.intro h1 h2))
  have HTG := uh (True.intro)
  obtain ⟨a0, c, ev⟩ := h.len0
  subst ev
  obtain ⟨R, hR⟩ : ∃ R, R = (decide (q < L.length) && decide (cmpBl (L.getD q Pl.blNo) t = 0)) := ⟨_, rfl⟩
  have HR : Hid (R = (decide (q < L.length) && decide (cmpBl (L.getD q Pl.blNo) t = 0))) := hR
  rw [← hR]
  clear h h1 h2 hR
  obtain ⟨wa, hwa⟩ : ∃ wa, wa = w.alloc (.cells #[.string t.kind, .string t.name, .slice none 0 0] 44) := ⟨_, rfl⟩
  obtain ⟨b0, hb00⟩ : ∃ b0, b0 = w.heap.size := ⟨_, rfl⟩
  have HWA : Hid (Below w.heap.size w wa) := by show Below _ _ _; rw [hwa]; exact blw_alloc (Below.refl _ _) _
  have HK0 : Hid (LBox wa b0 [.string t.kind, .string t.name, .slice none 0 0]) := by show LBox _ _ _; rw [hwa, hb00]; exact LBox.new w #[.string t.kind, .string t.name, .slice none 0 0] _ _ rfl
  obtain ⟨n, hn⟩ : ∃ n, n = L.length := ⟨_, rfl⟩
  have HN := uh hn
  rw [← hn] at HR hq hln
  rw [← hn]
  clear hn
  go_enter Try.func21, Try.ntmps21
  go_upto_region 1 with fail
  rw [← hwa, ← hb00]
  clear hwa hb00
  go_wp2_with fail
  go_loopw [9, 10] (fun i j wr => ∃ a b : Nat, i = .int .i64 (a : Nat) ∧ j = .int .i64 (b : Nat) ∧ a ≤ q ∧ q ≤ b ∧ b ≤ n ∧ Below wa.heap.size wa wr) (fun i j _ => (intOf j).toNat - (intOf i).toNat)
  case atStart => exact ⟨0, n, rfl, rfl, Nat.zero_le _, hq, Nat.le_refl _, Below.refl _ _⟩
  case round =>
    obtain ⟨a, b, rfl, rfl, ha, hb, hbl, hW⟩ := hrel
    have HW0 : Hid (Below w.heap.size w wr) := blw_trans HWA.out hW
    have HWN := uh hW
    clear hW
    by_cases hlt : a < b
    · obtain ⟨m, hm⟩ : ∃ m, m = (a + b) / 2 := ⟨_, rfl⟩
      have hm1 : a ≤ m := by omega
      have hm2 : m < b := by omega
      obtain ⟨x, hx⟩ : ∃ x, x = L.getD m Pl.blNo := ⟨_, rfl⟩
      have HWD := uh (HWN.out.drew)
      have HWE := uh (HW0.out.drew)
      have y0 : wr.drew.cell? ⟨b0, 0, none⟩ = some (.string t.kind) := (HK0.out.later HWN.out.drew).get 0 _ rfl
      have y1 : wr.drew.cell? ⟨b0, 1, none⟩ = some (.string t.name) := (HK0.out.later HWN.out.drew).get 1 _ rfl
      have y2 : wr.drew.cell? ⟨b0, 2, none⟩ = some (.slice none 0 0) := (HK0.out.later HWN.out.drew).get 2 _ rfl
      have yl := (HK0.out.later HWN.out.drew).lt
      rcases bls_open HH.out.1 with ⟨e0, _⟩ | ⟨p, o, c', hv, hp, _, hopen⟩
      · have := HN.out; omega
      injection hv with g1 _ g3
      subst g1; subst g3
      obtain ⟨ax, cx, hg, hrx⟩ := hopen m (by have := HN.out; omega)
      rw [← hx] at hg hrx
      have hgr := rA_later hg hp HW0.out.drew
      have hpr : p < wr.drew.heap.size := Nat.lt_of_lt_of_le hp HW0.out.drew.size
      have c0 : wr.drew.cell? ⟨p, o + m * 3, none⟩ = some (.string x.kind) := rA_get hgr 0 _ rfl
      have c1 : wr.drew.cell? ⟨p, o + m * 3 + 1, none⟩ = some (.string x.name) := rA_get hgr 1 _ rfl
      have c2 : wr.drew.cell? ⟨p, o + m * 3 + 2, none⟩ = some (.slice ax x.lines.length cx) := rA_get hgr 2 _ rfl
      obtain ⟨r, hr⟩ : ∃ r, r = cmpBl x t := ⟨_, rfl⟩
      have HXX : Hid (∀ W, Below w.heap.size w W → Calls Try.prog 22 #[.agg #[.string x.kind, .string x.name, .slice ax x.lines.length cx], .agg #[.string t.kind, .string t.name, .slice none 0 0]] W fun e w' => e = .returned (.int .i64 r) ∧ Below W.heap.size W w') := fun W _ => by rw [hr]; exact cmpBlI _ _ _ _ _ _ W
      have HP : Hid ((r < 0 → m < q) ∧ (¬ r < 0 → q ≤ m)) := by
        refine ⟨fun hz => ?_, fun hz => ?_⟩
        · refine Nat.lt_of_not_le fun hh => ?_
          have := HH.out.2.2 m hh (by have := HN.out; omega)
          rw [← hx, ← hr] at this; omega
        · refine Nat.le_of_not_lt fun hh => ?_
          have := HH.out.2.1 m hh
          rw [← hx, ← hr] at this; exact hz this
      have HMZ : Hid (((a : Int) + (b : Int)) / 2 = (m : Int)) := by show _ = _; omega
      clear hr hopen hg hgr hrx hx hm
      have hm0 : (0 : Int) ≤ (m : Int) := by omega
      have hm3 : (m : Int) < (n : Int) := by omega
      by_cases hz : r < 0
      · have HE : Hid (m < q) := HP.out.1 hz
        go_wp2_with fail
        rw [HMZ.out]
        refine region_tail 6 (by kernel_rfl) (by kernel_rfl) ?_
        intro W hWd
        rw [← hWd] at hpr HWD HWE yl y0 y1 y2 c0 c1 c2
        simp only [List.take_succ_cons, List.take_zero, List.drop_succ_cons, List.drop_zero]
        clear hWd
        have HX := uh (HXX.out W HWE.out)
        repeat still_step
        refine wpStill_nil ?_
        go_wp2_with (go_at_call 22; refine HX.out.mono ?_; rintro e w2 ⟨rfl, hb2⟩)
        go_roundw
        case rel => exact ⟨m + 1, b, by go_num, rfl, HE.out, hb, hbl, blw_trans HWD.out hb2⟩
        case measure => simp [intOf]; omega
      · have HE : Hid (q ≤ m) := HP.out.2 hz
        have hz' : 0 ≤ r := by omega
        go_wp2_with fail
        rw [HMZ.out]
        refine region_tail 6 (by kernel_rfl) (by kernel_rfl) ?_
        intro W hWd
        rw [← hWd] at hpr HWD HWE yl y0 y1 y2 c0 c1 c2
        simp only [List.take_succ_cons, List.take_zero, List.drop_succ_cons, List.drop_zero]
        clear hWd
        have HX := uh (HXX.out W HWE.out)
        repeat still_step
        refine wpStill_nil ?_
        go_wp2_with (go_at_call 22; refine HX.out.mono ?_; rintro e w2 ⟨rfl, hb2⟩)
        go_roundw
        case rel => exact ⟨a, m, rfl, rfl, ha, HE.out, by omega, blw_trans HWD.out hb2⟩
        case measure => simp [intOf]; omega
    · obtain rfl : a = q := by omega
      obtain rfl : b = a := by omega
      have hb0 : (0 : Int) ≤ (b : Int) := by omega
      have HK := uh (HK0.out.later HWN.out)
      by_cases hpl : b < n
      · have hbn : (b : Int) < (n : Int) := by omega
        obtain ⟨x, hx⟩ : ∃ x, x = L.getD b Pl.blNo := ⟨_, rfl⟩
        rcases bls_open HH.out.1 with ⟨e0, _⟩ | ⟨p, o, c', hv, hp, _, hopen⟩
        · have := HN.out; omega
        injection hv with g1 _ g3
        subst g1; subst g3
        obtain ⟨ax, cx, hg, hrx⟩ := hopen b (by have := HN.out; omega)
        rw [← hx] at hg hrx
        have HGX := uh (rA_later hg hp HW0.out)
        have HPZ : Hid (p < wr.heap.size) := Nat.lt_of_lt_of_le hp HW0.out.size
        obtain ⟨r, hr⟩ : ∃ r, r = cmpBl x t := ⟨_, rfl⟩
        have HXX : Hid (∀ W, Below w.heap.size w W → Calls Try.prog 22 #[.agg #[.string x.kind, .string x.name, .slice ax x.lines.length cx], .agg #[.string t.kind, .string t.name, .slice none 0 0]] W fun e w' => e = .returned (.int .i64 r) ∧ Below W.heap.size W w') := fun W _ => by rw [hr]; exact cmpBlI _ _ _ _ _ _ W
        have HX : Hid (∀ X, Below wr.heap.size wr X → Calls Try.prog 22 #[.agg #[.string x.kind, .string x.name, .slice ax x.lines.length cx], .agg #[.string t.kind, .string t.name, .slice none 0 0]] X fun e w' => e = .returned (.int .i64 r) ∧ Below X.heap.size X w') := fun X hX => HXX.out X (blw_trans HW0.out hX)
        have HRE : Hid (R = decide (r = 0)) := by show R = _; rw [HR.out, hr, hx]; simp [hpl]
        clear hr hopen hg hrx hx
        go_upto_region 8 with fail
        by_cases hz : r = 0
        · have HRR : Hid (R = true) := by show R = _; rw [HRE.out, decide_eq_true hz]
          refine RY.region_pastG wr (Below.refl _ _) (VNbe p o c b n x t ax cx r) (VNbe_mono _ _ _ _ _ _ _ _ _ _) (by kernel_rfl) (by kernel_rfl) (by kernel_rfl) (by kernel_rfl) ?_ ?_
          · intro ii o' ho a X hX hk hd
            have zb0 := HK.out.later hX
            have zb0l := zb0.lt
            match ii, ho with
            | 0, ho =>
              injection ho with ho; subst ho
              have e9 : a.tmps[9]?.getD undef = .int .i64 (b : Int) := (RY.ev_tmp a 9).trans ((hk 9 (by kernel_rfl)).trans rfl)
              exact Or.inl ⟨RY.wanted_no rfl, Or.inl ⟨.int .i64 (b : Int), X, by simp [execOp, go_sem, e9], Below.refl _ _, rfl⟩⟩
            | 1, ho =>
              injection ho with ho; subst ho
              have e9 : a.tmps[9]?.getD undef = .int .i64 (b : Int) := (RY.ev_tmp a 9).trans ((hk 9 (by kernel_rfl)).trans rfl)
              exact Or.inl ⟨RY.wanted_no rfl, Or.inl ⟨.int .i64 (b : Int), X, by simp [execOp, go_sem, e9], Below.refl _ _, rfl⟩⟩
            | 2, ho =>
              injection ho with ho; subst ho
              have e8 : a.tmps[8]?.getD undef = .int .i64 (n : Int) := (RY.ev_tmp a 8).trans ((hk 8 (by kernel_rfl)).trans rfl)
              exact Or.inl ⟨RY.wanted_no rfl, Or.inl ⟨.int .i64 (n : Int), X, by simp [execOp, go_sem, e8], Below.refl _ _, rfl⟩⟩
            | 3, ho =>
              injection ho with ho; subst ho
              have e36 : a.tmps[36]?.getD undef = .int .i64 (b : Int) := (RY.ev_tmp a 36).trans (hd 1 _ 36 rfl rfl ⟨⟨1, .data⟩, by simp, rfl, rfl⟩)
              have e37 : a.tmps[37]?.getD undef = .int .i64 (n : Int) := (RY.ev_tmp a 37).trans (hd 2 _ 37 rfl rfl ⟨⟨2, .data⟩, by simp, rfl, rfl⟩)
              exact Or.inl ⟨RY.wanted_no rfl, Or.inl ⟨.bool true, X, by simp [execOp, go_sem, e36, e37, hbn], Below.refl _ _, rfl⟩⟩
            | 4, ho =>
              injection ho with ho; subst ho
              have e38 : a.tmps[38]?.getD undef = .bool true := (RY.ev_tmp a 38).trans (hd 3 _ 38 rfl rfl ⟨⟨3, .data⟩, by simp, rfl, rfl⟩)
              exact Or.inl ⟨RY.wanted_no rfl, Or.inl ⟨.bool true, X, by simp [execOp, go_sem, e38], Below.refl _ _, rfl⟩⟩
            | 5, ho =>
              injection ho with ho; subst ho
              have gd := hd 4 _ 39 rfl rfl ⟨⟨4, .guard⟩, by simp, rfl, rfl⟩
              have e2 : a.tmps[2]?.getD undef = .func (.func 22) #[] #[] := (RY.ev_tmp a 2).trans ((hk 2 (by kernel_rfl)).trans rfl)
              exact Or.inl ⟨(RY.wanted_at rfl rfl rfl gd).trans rfl, Or.inl ⟨.func (.func 22) #[] #[], X, by simp [execOp, go_sem, e2], Below.refl _ _, rfl⟩⟩
            | 6, ho =>
              injection ho with ho; subst ho
              have gd := hd 4 _ 39 rfl rfl ⟨⟨4, .guard⟩, by simp, rfl, rfl⟩
              have e0 : a.tmps[0]?.getD undef = .slice (some ⟨p, o, none⟩) n c := (RY.ev_tmp a 0).trans ((hk 0 (by kernel_rfl)).trans rfl)
              exact Or.inl ⟨(RY.wanted_at rfl rfl rfl gd).trans rfl, Or.inl ⟨.slice (some ⟨p, o, none⟩) n c, X, by simp [execOp, go_sem, e0], Below.refl _ _, rfl⟩⟩
            | 7, ho =>
              injection ho with ho; subst ho
              have gd := hd 4 _ 39 rfl rfl ⟨⟨4, .guard⟩, by simp, rfl, rfl⟩
              have e9 : a.tmps[9]?.getD undef = .int .i64 (b : Int) := (RY.ev_tmp a 9).trans ((hk 9 (by kernel_rfl)).trans rfl)
              exact Or.inl ⟨(RY.wanted_at rfl rfl rfl gd).trans rfl, Or.inl ⟨.int .i64 (b : Int), X, by simp [execOp, go_sem, e9], Below.refl _ _, rfl⟩⟩
            | 8, ho =>
              injection ho with ho; subst ho
              have gd := hd 4 _ 39 rfl rfl ⟨⟨4, .guard⟩, by simp, rfl, rfl⟩
              have e41 : a.tmps[41]?.getD undef = .slice (some ⟨p, o, none⟩) n c := (RY.ev_tmp a 41).trans (hd 6 _ 41 rfl rfl ⟨⟨6, .data⟩, by simp, rfl, rfl⟩)
              have e42 : a.tmps[42]?.getD undef = .int .i64 (b : Int) := (RY.ev_tmp a 42).trans (hd 7 _ 42 rfl rfl ⟨⟨7, .data⟩, by simp, rfl, rfl⟩)
              exact Or.inl ⟨(RY.wanted_at rfl rfl rfl gd).trans rfl, Or.inl ⟨.pointer (some ⟨p, o + b * 3, none⟩), X, by simp [execOp, go_sem, e41, e42, hb0, hbn], Below.refl _ _, rfl⟩⟩
            | 9, ho =>
              injection ho with ho; subst ho
              have gd := hd 4 _ 39 rfl rfl ⟨⟨4, .guard⟩, by simp, rfl, rfl⟩
              have v43 : a.eval (.tmp 43) = .pointer (some ⟨p, o + b * 3, none⟩) := hd 8 _ 43 rfl rfl ⟨⟨8, .data⟩, by simp, rfl, rfl⟩
              exact Or.inl ⟨(RY.wanted_at rfl rfl rfl gd).trans rfl, Or.inl ⟨_, X, exec_load_mid 44 _ rfl p (o + b * 3) v43 [.string x.kind, .string x.name, .slice ax x.lines.length cx] _ (rA_later HGX.out HPZ.out hX) Try.underlying44 rfl (by kernel_rfl), Below.refl _ _, rfl⟩⟩
            | 10, ho =>
              injection ho with ho; subst ho
              have gd := hd 4 _ 39 rfl rfl ⟨⟨4, .guard⟩, by simp, rfl, rfl⟩
              have v4 : a.eval (.tmp 4) = .pointer (some ⟨b0, 0, none⟩) := (hk 4 (by kernel_rfl)).trans rfl
              exact Or.inl ⟨(RY.wanted_at rfl rfl rfl gd).trans rfl, Or.inl ⟨_, X, exec_load_mid 44 _ rfl b0 0 v4 [.string t.kind, .string t.name, .slice none 0 0] _ zb0.at_ Try.underlying44 rfl (by kernel_rfl), Below.refl _ _, rfl⟩⟩
            | 11, ho =>
              injection ho with ho; subst ho
              have gd := hd 4 _ 39 rfl rfl ⟨⟨4, .guard⟩, by simp, rfl, rfl⟩
              have e40 : a.tmps[40]?.getD undef = .func (.func 22) #[] #[] := (RY.ev_tmp a 40).trans (hd 5 _ 40 rfl rfl ⟨⟨5, .data⟩, by simp, rfl, rfl⟩)
              have e44 : a.tmps[44]?.getD undef = .agg #[.string x.kind, .string x.name, .slice ax x.lines.length cx] := (RY.ev_tmp a 44).trans (hd 9 _ 44 rfl rfl ⟨⟨9, .data⟩, by simp, rfl, rfl⟩)
              have e45 : a.tmps[45]?.getD undef = .agg #[.string t.kind, .string t.name, .slice none 0 0] := (RY.ev_tmp a 45).trans (hd 10 _ 45 rfl rfl ⟨⟨10, .data⟩, by simp, rfl, rfl⟩)
              refine Or.inl ⟨(RY.wanted_at rfl rfl rfl gd).trans rfl, Or.inr ⟨22, #[.agg #[.string x.kind, .string x.name, .slice ax x.lines.length cx], .agg #[.string t.kind, .string t.name, .slice none 0 0]], by simp [go_sem, e40, e44, e45], (HX.out X hX).mono ?_⟩⟩
              rintro e W' ⟨rfl, hb⟩
              exact ⟨_, rfl, hb, rfl⟩
            | 12, ho =>
              injection ho with ho; subst ho
              have gd := hd 4 _ 39 rfl rfl ⟨⟨4, .guard⟩, by simp, rfl, rfl⟩
              have e46 : a.tmps[46]?.getD undef = .int .i64 r := (RY.ev_tmp a 46).trans (hd 11 _ 46 rfl rfl ⟨⟨11, .data⟩, by simp, rfl, rfl⟩)
              exact Or.inl ⟨(RY.wanted_at rfl rfl rfl gd).trans rfl, Or.inl ⟨.bool true, X, by simp [execOp, go_sem, e46, hz], Below.refl _ _, rfl⟩⟩
            | 13, ho =>
              injection ho with ho; subst ho
              have e39 : a.tmps[39]?.getD undef = .bool true := (RY.ev_tmp a 39).trans (hd 4 _ 39 rfl rfl ⟨⟨4, .data⟩, by simp, rfl, rfl⟩)
              have e47 : a.tmps[47]?.getD undef = .bool true := (RY.ev_tmp a 47).trans (hd 12 _ 47 rfl rfl ⟨⟨12, .data⟩, by simp, rfl, rfl⟩)
              exact Or.inl ⟨RY.wanted_no rfl, Or.inl ⟨.bool true, X, by simp [execOp, go_sem, e39, e47], Below.refl _ _, rfl⟩⟩
            | 14, ho =>
              injection ho with ho; subst ho
              have e35 : a.tmps[35]?.getD undef = .int .i64 (b : Int) := (RY.ev_tmp a 35).trans (hd 0 _ 35 rfl rfl ⟨⟨0, .data⟩, by simp, rfl, rfl⟩)
              exact Or.inl ⟨RY.wanted_no rfl, Or.inl ⟨.int .i64 (b : Int), X, by simp [execOp, go_sem, e35], Below.refl _ _, rfl⟩⟩
            | 15, ho =>
              injection ho with ho; subst ho
              have e48 : a.tmps[48]?.getD undef = .bool true := (RY.ev_tmp a 48).trans (hd 13 _ 48 rfl rfl ⟨⟨13, .data⟩, by simp, rfl, rfl⟩)
              exact Or.inl ⟨RY.wanted_no rfl, Or.inl ⟨.bool true, X, by simp [execOp, go_sem, e48], Below.refl _ _, rfl⟩⟩
            | n + 16, ho => simp at ho
          intro X vs hX hvs
          have q6 : vs 6 = _ := hvs 14 _ 6 rfl rfl
          have q7 : vs 7 = _ := hvs 15 _ 7 rfl rfl
          simp only [RY.putAll, Act.put, List.setIfInBounds_toArray, List.set_cons_zero, List.set_cons_succ]
          rw [q6, q7]
          generalize vs 35 = s35
          generalize vs 36 = s36
          generalize vs 37 = s37
          generalize vs 38 = s38
          generalize vs 39 = s39
          generalize vs 40 = s40
          generalize vs 41 = s41
          generalize vs 42 = s42
          generalize vs 43 = s43
          generalize vs 44 = s44
          generalize vs 45 = s45
          generalize vs 46 = s46
          generalize vs 47 = s47
          generalize vs 48 = s48
          clear hvs q6 q7
          go_wp2
          go_ret2
          refine ⟨Pl.ret_nb HRR.out.symm, blw_trans HW0.out hX⟩
        · have HRR : Hid (R = false) := by show R = _; rw [HRE.out, decide_eq_false hz]
          refine RY.region_pastG wr (Below.refl _ _) (VNbn p o c b n x t ax cx r) (VNbn_mono _ _ _ _ _ _ _ _ _ _) (by kernel_rfl) (by kernel_rfl) (by kernel_rfl) (by kernel_rfl) ?_ ?_
          · intro ii o' ho a X hX hk hd
            have zb0 := HK.out.later hX
            have zb0l := zb0.lt
            match ii, ho with
            | 0, ho =>
              injection ho with ho; subst ho
              have e9 : a.tmps[9]?.getD undef = .int .i64 (b : Int) := (RY.ev_tmp a 9).trans ((hk 9 (by kernel_rfl)).trans rfl)
              exact Or.inl ⟨RY.wanted_no rfl, Or.inl ⟨.int .i64 (b : Int), X, by simp [execOp, go_sem, e9], Below.refl _ _, rfl⟩⟩
            | 1, ho =>
              injection ho with ho; subst ho
              have e9 : a.tmps[9]?.getD undef = .int .i64 (b : Int) := (RY.ev_tmp a 9).trans ((hk 9 (by kernel_rfl)).trans rfl)
              exact Or.inl ⟨RY.wanted_no rfl, Or.inl ⟨.int .i64 (b : Int), X, by simp [execOp, go_sem, e9], Below.refl _ _, rfl⟩⟩
            | 2, ho =>
              injection ho with ho; subst ho
              have e8 : a.tmps[8]?.getD undef = .int .i64 (n : Int) := (RY.ev_tmp a 8).trans ((hk 8 (by kernel_rfl)).trans rfl)
              exact Or.inl ⟨RY.wanted_no rfl, Or.inl ⟨.int .i64 (n : Int), X, by simp [execOp, go_sem, e8], Below.refl _ _, rfl⟩⟩
            | 3, ho =>
              injection ho with ho; subst ho
              have e36 : a.tmps[36]?.getD undef = .int .i64 (b : Int) := (RY.ev_tmp a 36).trans (hd 1 _ 36 rfl rfl ⟨⟨1, .data⟩, by simp, rfl, rfl⟩)
              have e37 : a.tmps[37]?.getD undef = .int .i64 (n : Int) := (RY.ev_tmp a 37).trans (hd 2 _ 37 rfl rfl ⟨⟨2, .data⟩, by simp, rfl, rfl⟩)
              exact Or.inl ⟨RY.wanted_no rfl, Or.inl ⟨.bool true, X, by simp [execOp, go_sem, e36, e37, hbn], Below.refl _ _, rfl⟩⟩
            | 4, ho =>
              injection ho with ho; subst ho
              have e38 : a.tmps[38]?.getD undef = .bool true := (RY.ev_tmp a 38).trans (hd 3 _ 38 rfl rfl ⟨⟨3, .data⟩, by simp, rfl, rfl⟩)
              exact Or.inl ⟨RY.wanted_no rfl, Or.inl ⟨.bool true, X, by simp [execOp, go_sem, e38], Below.refl _ _, rfl⟩⟩
            | 5, ho =>
              injection ho with ho; subst ho
              have gd := hd 4 _ 39 rfl rfl ⟨⟨4, .guard⟩, by simp, rfl, rfl⟩
              have e2 : a.tmps[2]?.getD undef = .func (.func 22) #[] #[] := (RY.ev_tmp a 2).trans ((hk 2 (by kernel_rfl)).trans rfl)
              exact Or.inl ⟨(RY.wanted_at rfl rfl rfl gd).trans rfl, Or.inl ⟨.func (.func 22) #[] #[], X, by simp [execOp, go_sem, e2], Below.refl _ _, rfl⟩⟩
            | 6, ho =>
              injection ho with ho; subst ho
              have gd := hd 4 _ 39 rfl rfl ⟨⟨4, .guard⟩, by simp, rfl, rfl⟩
              have e0 : a.tmps[0]?.getD undef = .slice (some ⟨p, o, none⟩) n c := (RY.ev_tmp a 0).trans ((hk 0 (by kernel_rfl)).trans rfl)
              exact Or.inl ⟨(RY.wanted_at rfl rfl rfl gd).trans rfl, Or.inl ⟨.slice (some ⟨p, o, none⟩) n c, X, by simp [execOp, go_sem, e0], Below.refl _ _, rfl⟩⟩
            | 7, ho =>
              injection ho with ho; subst ho
              have gd := hd 4 _ 39 rfl rfl ⟨⟨4, .guard⟩, by simp, rfl, rfl⟩
              have e9 : a.tmps[9]?.getD undef = .int .i64 (b : Int) := (RY.ev_tmp a 9).trans ((hk 9 (by kernel_rfl)).trans rfl)
              exact Or.inl ⟨(RY.wanted_at rfl rfl rfl gd).trans rfl, Or.inl ⟨.int .i64 (b : Int), X, by simp [execOp, go_sem, e9], Below.refl _ _, rfl⟩⟩
            | 8, ho =>
              injection ho with ho; subst ho
              have gd := hd 4 _ 39 rfl rfl ⟨⟨4, .guard⟩, by simp, rfl, rfl⟩
              have e41 : a.tmps[41]?.getD undef = .slice (some ⟨p, o, none⟩) n c := (RY.ev_tmp a 41).trans (hd 6 _ 41 rfl rfl ⟨⟨6, .data⟩, by simp, rfl, rfl⟩)
              have e42 : a.tmps[42]?.getD undef = .int .i64 (b : Int) := (RY.ev_tmp a 42).trans (hd 7 _ 42 rfl rfl ⟨⟨7, .data⟩, by simp, rfl, rfl⟩)
              exact Or.inl ⟨(RY.wanted_at rfl rfl rfl gd).trans rfl, Or.inl ⟨.pointer (some ⟨p, o + b * 3, none⟩), X, by simp [execOp, go_sem, e41, e42, hb0, hbn], Below.refl _ _, rfl⟩⟩
            | 9, ho =>
              injection ho with ho; subst ho
              have gd := hd 4 _ 39 rfl rfl ⟨⟨4, .guard⟩, by simp, rfl, rfl⟩
              have v43 : a.eval (.tmp 43) = .pointer (some ⟨p, o + b * 3, none⟩) := hd 8 _ 43 rfl rfl ⟨⟨8, .data⟩, by simp, rfl, rfl⟩
              exact Or.inl ⟨(RY.wanted_at rfl rfl rfl gd).trans rfl, Or.inl ⟨_, X, exec_load_mid 44 _ rfl p (o + b * 3) v43 [.string x.kind, .string x.name, .slice ax x.lines.length cx] _ (rA_later HGX.out HPZ.out hX) Try.underlying44 rfl (by kernel_rfl), Below.refl _ _, rfl⟩⟩
            | 10, ho =>
              injection ho with ho; subst ho
              have gd := hd 4 _ 39 rfl rfl ⟨⟨4, .guard⟩, by simp, rfl, rfl⟩
              have v4 : a.eval (.tmp 4) = .pointer (some ⟨b0, 0, none⟩) := (hk 4 (by kernel_rfl)).trans rfl
              exact Or.inl ⟨(RY.wanted_at rfl rfl rfl gd).trans rfl, Or.inl ⟨_, X, exec_load_mid 44 _ rfl b0 0 v4 [.string t.kind, .string t.name, .slice none 0 0] _ zb0.at_ Try.underlying44 rfl (by kernel_rfl), Below.refl _ _, rfl⟩⟩
            | 11, ho =>
              injection ho with ho; subst ho
              have gd := hd 4 _ 39 rfl rfl ⟨⟨4, .guard⟩, by simp, rfl, rfl⟩
              have e40 : a.tmps[40]?.getD undef = .func (.func 22) #[] #[] := (RY.ev_tmp a 40).trans (hd 5 _ 40 rfl rfl ⟨⟨5, .data⟩, by simp, rfl, rfl⟩)
              have e44 : a.tmps[44]?.getD undef = .agg #[.string x.kind, .string x.name, .slice ax x.lines.length cx] := (RY.ev_tmp a 44).trans (hd 9 _ 44 rfl rfl ⟨⟨9, .data⟩, by simp, rfl, rfl⟩)
              have e45 : a.tmps[45]?.getD undef = .agg #[.string t.kind, .string t.name, .slice none 0 0] := (RY.ev_tmp a 45).trans (hd 10 _ 45 rfl rfl ⟨⟨10, .data⟩, by simp, rfl, rfl⟩)
              refine Or.inl ⟨(RY.wanted_at rfl rfl rfl gd).trans rfl, Or.inr ⟨22, #[.agg #[.string x.kind, .string x.name, .slice ax x.lines.length cx], .agg #[.string t.kind, .string t.name, .slice none 0 0]], by simp [go_sem, e40, e44, e45], (HX.out X hX).mono ?_⟩⟩
              rintro e W' ⟨rfl, hb⟩
              exact ⟨_, rfl, hb, rfl⟩
            | 12, ho =>
              injection ho with ho; subst ho
              have gd := hd 4 _ 39 rfl rfl ⟨⟨4, .guard⟩, by simp, rfl, rfl⟩
              have e46 : a.tmps[46]?.getD undef = .int .i64 r := (RY.ev_tmp a 46).trans (hd 11 _ 46 rfl rfl ⟨⟨11, .data⟩, by simp, rfl, rfl⟩)
              exact Or.inl ⟨(RY.wanted_at rfl rfl rfl gd).trans rfl, Or.inl ⟨.bool false, X, by simp [execOp, go_sem, e46, hz], Below.refl _ _, rfl⟩⟩
            | 13, ho =>
              injection ho with ho; subst ho
              have e39 : a.tmps[39]?.getD undef = .bool true := (RY.ev_tmp a 39).trans (hd 4 _ 39 rfl rfl ⟨⟨4, .data⟩, by simp, rfl, rfl⟩)
              have e47 : a.tmps[47]?.getD undef = .bool false := (RY.ev_tmp a 47).trans (hd 12 _ 47 rfl rfl ⟨⟨12, .data⟩, by simp, rfl, rfl⟩)
              exact Or.inl ⟨RY.wanted_no rfl, Or.inl ⟨.bool false, X, by simp [execOp, go_sem, e39, e47], Below.refl _ _, rfl⟩⟩
            | 14, ho =>
              injection ho with ho; subst ho
              have e35 : a.tmps[35]?.getD undef = .int .i64 (b : Int) := (RY.ev_tmp a 35).trans (hd 0 _ 35 rfl rfl ⟨⟨0, .data⟩, by simp, rfl, rfl⟩)
              exact Or.inl ⟨RY.wanted_no rfl, Or.inl ⟨.int .i64 (b : Int), X, by simp [execOp, go_sem, e35], Below.refl _ _, rfl⟩⟩
            | 15, ho =>
              injection ho with ho; subst ho
              have e48 : a.tmps[48]?.getD undef = .bool false := (RY.ev_tmp a 48).trans (hd 13 _ 48 rfl rfl ⟨⟨13, .data⟩, by simp, rfl, rfl⟩)
              exact Or.inl ⟨RY.wanted_no rfl, Or.inl ⟨.bool false, X, by simp [execOp, go_sem, e48], Below.refl _ _, rfl⟩⟩
            | n + 16, ho => simp at ho
          intro X vs hX hvs
          have q6 : vs 6 = _ := hvs 14 _ 6 rfl rfl
          have q7 : vs 7 = _ := hvs 15 _ 7 rfl rfl
          simp only [RY.putAll, Act.put, List.setIfInBounds_toArray, List.set_cons_zero, List.set_cons_succ]
          rw [q6, q7]
          generalize vs 35 = s35
          generalize vs 36 = s36
          generalize vs 37 = s37
          generalize vs 38 = s38
          generalize vs 39 = s39
          generalize vs 40 = s40
          generalize vs 41 = s41
          generalize vs 42 = s42
          generalize vs 43 = s43
          generalize vs 44 = s44
          generalize vs 45 = s45
          generalize vs 46 = s46
          generalize vs 47 = s47
          generalize vs 48 = s48
          clear hvs q6 q7
          go_wp2
          go_ret2
          refine ⟨Pl.ret_nb HRR.out.symm, blw_trans HW0.out hX⟩
      · have hbn : ¬ ((b : Int) < (n : Int)) := by omega
        have HRR : Hid (R = false) := by show R = _; rw [HR.out]; simp [hpl]
        go_upto_region 8 with fail
        refine RY.region_pastG wr (Below.refl _ _) (VNbo b n) (VNbo_mono _ _) (by kernel_rfl) (by kernel_rfl) (by kernel_rfl) (by kernel_rfl) ?_ ?_
        · intro ii o' ho a X hX hk hd
          have zb0 := HK.out.later hX
          have zb0l := zb0.lt
          match ii, ho with
          | 0, ho =>
            injection ho with ho; subst ho
            have e9 : a.tmps[9]?.getD undef = .int .i64 (b : Int) := (RY.ev_tmp a 9).trans ((hk 9 (by kernel_rfl)).trans rfl)
            exact Or.inl ⟨RY.wanted_no rfl, Or.inl ⟨.int .i64 (b : Int), X, by simp [execOp, go_sem, e9], Below.refl _ _, rfl⟩⟩
          | 1, ho =>
            injection ho with ho; subst ho
            have e9 : a.tmps[9]?.getD undef = .int .i64 (b : Int) := (RY.ev_tmp a 9).trans ((hk 9 (by kernel_rfl)).trans rfl)
            exact Or.inl ⟨RY.wanted_no rfl, Or.inl ⟨.int .i64 (b : Int), X, by simp [execOp, go_sem, e9], Below.refl _ _, rfl⟩⟩
          | 2, ho =>
            injection ho with ho; subst ho
            have e8 : a.tmps[8]?.getD undef = .int .i64 (n : Int) := (RY.ev_tmp a 8).trans ((hk 8 (by kernel_rfl)).trans rfl)
            exact Or.inl ⟨RY.wanted_no rfl, Or.inl ⟨.int .i64 (n : Int), X, by simp [execOp, go_sem, e8], Below.refl _ _, rfl⟩⟩
          | 3, ho =>
            injection ho with ho; subst ho
            have e36 : a.tmps[36]?.getD undef = .int .i64 (b : Int) := (RY.ev_tmp a 36).trans (hd 1 _ 36 rfl rfl ⟨⟨1, .data⟩, by simp, rfl, rfl⟩)
            have e37 : a.tmps[37]?.getD undef = .int .i64 (n : Int) := (RY.ev_tmp a 37).trans (hd 2 _ 37 rfl rfl ⟨⟨2, .data⟩, by simp, rfl, rfl⟩)
            exact Or.inl ⟨RY.wanted_no rfl, Or.inl ⟨.bool false, X, by simp [execOp, go_sem, e36, e37, hbn], Below.refl _ _, rfl⟩⟩
          | 4, ho =>
            injection ho with ho; subst ho
            have e38 : a.tmps[38]?.getD undef = .bool false := (RY.ev_tmp a 38).trans (hd 3 _ 38 rfl rfl ⟨⟨3, .data⟩, by simp, rfl, rfl⟩)
            exact Or.inl ⟨RY.wanted_no rfl, Or.inl ⟨.bool false, X, by simp [execOp, go_sem, e38], Below.refl _ _, rfl⟩⟩
          | 5, ho =>
            injection ho with ho; subst ho
            have gd := hd 4 _ 39 rfl rfl ⟨⟨4, .guard⟩, by simp, rfl, rfl⟩
            exact Or.inr ⟨(RY.wanted_at rfl rfl rfl gd).trans rfl, rfl⟩
          | 6, ho =>
            injection ho with ho; subst ho
            have gd := hd 4 _ 39 rfl rfl ⟨⟨4, .guard⟩, by simp, rfl, rfl⟩
            exact Or.inr ⟨(RY.wanted_at rfl rfl rfl gd).trans rfl, rfl⟩
          | 7, ho =>
            injection ho with ho; subst ho
            have gd := hd 4 _ 39 rfl rfl ⟨⟨4, .guard⟩, by simp, rfl, rfl⟩
            exact Or.inr ⟨(RY.wanted_at rfl rfl rfl gd).trans rfl, rfl⟩
          | 8, ho =>
            injection ho with ho; subst ho
            have gd := hd 4 _ 39 rfl rfl ⟨⟨4, .guard⟩, by simp, rfl, rfl⟩
            exact Or.inr ⟨(RY.wanted_at rfl rfl rfl gd).trans rfl, rfl⟩
          | 9, ho =>
            injection ho with ho; subst ho
            have gd := hd 4 _ 39 rfl rfl ⟨⟨4, .guard⟩, by simp, rfl, rfl⟩
            exact Or.inr ⟨(RY.wanted_at rfl rfl rfl gd).trans rfl, rfl⟩
          | 10, ho =>
            injection ho with ho; subst ho
            have gd := hd 4 _ 39 rfl rfl ⟨⟨4, .guard⟩, by simp, rfl, rfl⟩
            exact Or.inr ⟨(RY.wanted_at rfl rfl rfl gd).trans rfl, rfl⟩
          | 11, ho =>
            injection ho with ho; subst ho
            have gd := hd 4 _ 39 rfl rfl ⟨⟨4, .guard⟩, by simp, rfl, rfl⟩
            exact Or.inr ⟨(RY.wanted_at rfl rfl rfl gd).trans rfl, rfl⟩
          | 12, ho =>
            injection ho with ho; subst ho
            have gd := hd 4 _ 39 rfl rfl ⟨⟨4, .guard⟩, by simp, rfl, rfl⟩
            exact Or.inr ⟨(RY.wanted_at rfl rfl rfl gd).trans rfl, rfl⟩
          | 13, ho =>
            injection ho with ho; subst ho
            have e39 : a.tmps[39]?.getD undef = .bool false := (RY.ev_tmp a 39).trans (hd 4 _ 39 rfl rfl ⟨⟨4, .data⟩, by simp, rfl, rfl⟩)
            have e47 : a.tmps[47]?.getD undef = undef := (RY.ev_tmp a 47).trans (hd 12 _ 47 rfl rfl ⟨⟨12, .data⟩, by simp, rfl, rfl⟩)
            exact Or.inl ⟨RY.wanted_no rfl, Or.inl ⟨.bool false, X, by simp [execOp, go_sem, e39, e47], Below.refl _ _, rfl⟩⟩
          | 14, ho =>
            injection ho with ho; subst ho
            have e35 : a.tmps[35]?.getD undef = .int .i64 (b : Int) := (RY.ev_tmp a 35).trans (hd 0 _ 35 rfl rfl ⟨⟨0, .data⟩, by simp, rfl, rfl⟩)
            exact Or.inl ⟨RY.wanted_no rfl, Or.inl ⟨.int .i64 (b : Int), X, by simp [execOp, go_sem, e35], Below.refl _ _, rfl⟩⟩
          | 15, ho =>
            injection ho with ho; subst ho
            have e48 : a.tmps[48]?.getD undef = .bool false := (RY.ev_tmp a 48).trans (hd 13 _ 48 rfl rfl ⟨⟨13, .data⟩, by simp, rfl, rfl⟩)
            exact Or.inl ⟨RY.wanted_no rfl, Or.inl ⟨.bool false, X, by simp [execOp, go_sem, e48], Below.refl _ _, rfl⟩⟩
          | n + 16, ho => simp at ho
        intro X vs hX hvs
        have q6 : vs 6 = _ := hvs 14 _ 6 rfl rfl
        have q7 : vs 7 = _ := hvs 15 _ 7 rfl rfl
        simp only [RY.putAll, Act.put, List.setIfInBounds_toArray, List.set_cons_zero, List.set_cons_succ]
        rw [q6, q7]
        generalize vs 35 = s35
        generalize vs 36 = s36
        generalize vs 37 = s37
        generalize vs 38 = s38
        generalize vs 39 = s39
        generalize vs 40 = s40
        generalize vs 41 = s41
        generalize vs 42 = s42
        generalize vs 43 = s43
        generalize vs 44 = s44
        generalize vs 45 = s45
        generalize vs 46 = s46
        generalize vs 47 = s47
        generalize vs 48 = s48
        clear hvs q6 q7
        go_wp2
        go_ret2
        refine ⟨Pl.ret_nb HRR.out.symm, blw_trans HW0.out hX⟩
def VNle (p : Nat) (o : Nat) (c : Nat) (b : Nat) (n : Nat) (l : List Pl.Ru) (va : Option Addr) (vc : Nat) (x : Pl.Ln) (t : Pl.Ln) (ax : Option Addr) (at_ : Option Addr) (cx : Nat) (ct : Nat) (r : Int) : Nat → Value → World → Prop
  | 0, vv, _ => vv = .int .i64 (b : Int)
  | 1, vv, _ => vv = .int .i64 (b : Int)
  | 2, vv, _ => vv = .int .i64 (n : Int)
  | 3, vv, _ => vv = .bool true
  | 4, vv, _ => vv = .bool true
  | 5, vv, _ => vv = .func (.func 62) #[.agg #[.slice va l.length vc]] #[]
  | 6, vv, _ => vv = .slice (some ⟨p, o, none⟩) n c
  | 7, vv, _ => vv = .int .i64 (b : Int)
  | 8, vv, _ => vv = .pointer (some ⟨p, o + b * 2, none⟩)
  | 9, vv, _ => vv = .agg #[.string x.key, .slice ax x.ws.length cx]
  | 10, vv, _ => vv = .agg #[.string t.key, .slice at_ t.ws.length ct]
  | 11, vv, _ => vv = .int .i64 r
  | 12, vv, _ => vv = .bool true
  | 13, vv, _ => vv = .bool true
  | 14, vv, _ => vv = .int .i64 (b : Int)
  | 15, vv, _ => vv = .bool true
  | _, _, _ => True
theorem VNle_mono (p : Nat) (o : Nat) (c : Nat) (b : Nat) (n : Nat) (l : List Pl.Ru) (va : Option Addr) (vc : Nat) (x : Pl.Ln) (t : Pl.Ln) (ax : Option Addr) (at_ : Option Addr) (cx : Nat) (ct : Nat) (r : Int) : ∀ jj vv W W', Below W.heap.size W W' → VNle p o c b n l va vc x t ax at_ cx ct r jj vv W → VNle p o c b n l va vc x t ax at_ cx ct r jj vv W' := by
  intro jj vv W W' hb h
  match jj with
  | 0 => exact h
  | 1 => exact h
  | 2 => exact h
  | 3 => exact h
  | 4 => exact h
  | 5 => exact h
  | 6 => exact h
  | 7 => exact h
  | 8 => exact h
  | 9 => exact h
  | 10 => exact h
  | 11 => exact h
  | 12 => exact h
  | 13 => exact h
  | 14 => exact h
  | 15 => exact h
  | n + 16 => exact trivial
def VNln (p : Nat) (o : Nat) (c : Nat) (b : Nat) (n : Nat) (l : List Pl.Ru) (va : Option Addr) (vc : Nat) (x : Pl.Ln) (t : Pl.Ln) (ax : Option Addr) (at_ : Option Addr) (cx : Nat) (ct : Nat) (r : Int) : Nat → Value → World → Prop
  | 0, vv, _ => vv = .int .i64 (b : Int)
  | 1, vv, _ => vv = .int .i64 (b : Int)
  | 2, vv, _ => vv = .int .i64 (n : Int)
  | 3, vv, _ => vv = .bool true
  | 4, vv, _ => vv = .bool true
  | 5, vv, _ => vv = .func (.func 62) #[.agg #[.slice va l.length vc]] #[]
  | 6, vv, _ => vv = .slice (some ⟨p, o, none⟩) n c
  | 7, vv, _ => vv = .int .i64 (b : Int)
  | 8, vv, _ => vv = .pointer (some ⟨p, o + b * 2, none⟩)
  | 9, vv, _ => vv = .agg #[.string x.key, .slice ax x.ws.length cx]
  | 10, vv, _ => vv = .agg #[.string t.key, .slice at_ t.ws.length ct]
  | 11, vv, _ => vv = .int .i64 r
  | 12, vv, _ => vv = .bool false
  | 13, vv, _ => vv = .bool false
  | 14, vv, _ => vv = .int .i64 (b : Int)
  | 15, vv, _ => vv = .bool false
  | _, _, _ => True
theorem VNln_mono (p : Nat) (o : Nat) (c : Nat) (b : Nat) (n : Nat) (l : List Pl.Ru) (va : Option Addr) (vc : Nat) (x : Pl.Ln) (t : Pl.Ln) (ax : Option Addr) (at_ : Option Addr) (cx : Nat) (ct : Nat) (r : Int) : ∀ jj vv W W', Below W.heap.size W W' → VNln p o c b n l va vc x t ax at_ cx ct r jj vv W → VNln p o c b n l va vc x t ax at_ cx ct r jj vv W' := by
  intro jj vv W W' hb h
  match jj with
  | 0 => exact h
  | 1 => exact h
  | 2 => exact h
  | 3 => exact h
  | 4 => exact h
  | 5 => exact h
  | 6 => exact h
  | 7 => exact h
  | 8 => exact h
  | 9 => exact h
  | 10 => exact h
  | 11 => exact h
  | 12 => exact h
  | 13 => exact h
  | 14 => exact h
  | 15 => exact h
  | n + 16 => exact trivial
def VNlo (b : Nat) (n : Nat) : Nat → Value → World → Prop
  | 0, vv, _ => vv = .int .i64 (b : Int)
  | 1, vv, _ => vv = .int .i64 (b : Int)
  | 2, vv, _ => vv = .int .i64 (n : Int)
  | 3, vv, _ => vv = .bool false
  | 4, vv, _ => vv = .bool false
  | 5, vv, _ => vv = undef
  | 6, vv, _ => vv = undef
  | 7, vv, _ => vv = undef
  | 8, vv, _ => vv = undef
  | 9, vv, _ => vv = undef
  | 10, vv, _ => vv = undef
  | 11, vv, _ => vv = undef
  | 12, vv, _ => vv = undef
  | 13, vv, _ => vv = .bool false
  | 14, vv, _ => vv = .int .i64 (b : Int)
  | 15, vv, _ => vv = .bool false
  | _, _, _ => True
theorem VNlo_mono (b : Nat) (n : Nat) : ∀ jj vv W W', Below W.heap.size W W' → VNlo b n jj vv W → VNlo b n jj vv W' := by
  intro jj vv W W' hb h
  match jj with
  | 0 => exact h
  | 1 => exact h
  | 2 => exact h
  | 3 => exact h
  | 4 => exact h
  | 5 => exact h
  | 6 => exact h
  | 7 => exact h
  | 8 => exact h
  | 9 => exact h
  | 10 => exact h
  | 11 => exact h
  | 12 => exact h
  | 13 => exact h
  | 14 => exact h
  | 15 => exact h
  | n + 16 => exact trivial

end Go.Proofs.Ytikacjpbnoihjaa
