/-
  Sheets: a block in its place: the specification.
-/
import Derived.Test.YtdllbcafbfkngaaGreatDoorELs
import Derived.Test.YtdllbcafbfkngaaGreatDoorELt
import Derived.Test.YtdllbcafbfkngaaGreatDoorELc
import Derived.Test.YtdllbcafbfkngaaGreatDoorRgG
import Derived.Test.YtdllbcafbfkngaaGreatDoorECy
namespace Go.Proofs.YtdllbcafbfkngaaGreatDoor
open Go.RowKit Go.Deep

theorem Tryz.elem_blocks : Tryz.prog.elem 22 = 37 := by kernel_rfl
theorem Tryz.under_blocksE : Tryz.prog.underlying 22 = some (.slice (Tryz.prog.elem 22)) := by rw [Tryz.elem_blocks]; exact Tryz.under_blocks
/-- While a line's place is sought. -/
structure Qt (w : World) (b0 : Nat) (lv : Value) (xs : List Value) (W : World) : Prop where
  bel : Below w.heap.size w W
  box : WBox W b0 24 [lv]
  arg : LBox W (b0 + 1) xs
  res : WBox W (b0 + 2) 24 [.slice none 0 0]
theorem Qt.later {w W W' : World} {b0 : Nat} {lv : Value} {xs : List Value} (h : Qt w b0 lv xs W) (hb : Below W.heap.size W W') : Qt w b0 lv xs W' := ⟨blw_trans h.bel hb, h.box.later hb, h.arg.later hb, h.res.later hb⟩
/-- Behind it. -/
structure QtK (w : World) (b0 : Nat) (n : Nat) (u : Value) (G : List Nat) (es : List Dt) (xs : List Value) (W : World) : Prop where
  form : ∃ g cap, u = .slice (some ⟨g, 0, none⟩) (n + 1) cap
  bel : Below w.heap.size w W
  box : WBox W b0 24 [u]
  res : WBox W (b0 + 2) 24 [.slice none 0 0]
  row : W.ownsRow (b0 + 3) 37 3 u (n + 1) xs
  rep : Rep W false (reps (n + 1) shSheetBlock) G es xs
theorem QtK.mk' {w Y : World} {b0 lo n g cap : Nat} {lv : Value} {G : List Nat} {es : List Dt} {xs ys : List Value} (hb : b0 = w.heap.size) (h : Qt w b0 lv ys Y) (hlo : b0 + 3 ≤ lo) (ho : Y.ownsRow lo 37 3 (.slice (some ⟨g, 0, none⟩) (n + 1) cap) (n + 1) xs) (hr : Rep Y false (reps (n + 1) shSheetBlock) G es xs) (hG : ∀ b ∈ G, b < b0) :
    QtK w b0 n (.slice (some ⟨g, 0, none⟩) (n + 1) cap) G es xs (Y.setCell ⟨b0, 0, none⟩ (.slice (some ⟨g, 0, none⟩) (n + 1) cap)) := by
  have hm : Marks (fun b => b = b0) Y (Y.setCell ⟨b0, 0, none⟩ (.slice (some ⟨g, 0, none⟩) (n + 1) cap)) := Marks.sc (S := fun b => b = b0) Y rfl 0 _
  exact ⟨⟨g, cap, rfl⟩, hm.below (fun b e => by omega) h.bel, h.box.set 0 _ (by simp), h.res.other (by omega) _ _, owns_mks (ownsRow_lo ho hlo) hm fun b hb e => by omega, hr.keep hm fun b hb e => by have := hG b hb; omega⟩
theorem QtK.ans {w W we : World} {b0 n g cap : Nat} {G : List Nat} {l : List Pl.Bl} {xs : List Value} {S : Nat → Prop} (h : QtK w b0 n (.slice (some ⟨g, 0, none⟩) (n + 1) cap) G (l.flatMap blD) xs W) (hb : b0 = w.heap.size) (hm : Marks (fun b => b = b0 + 2) W we) (hG : ∀ b ∈ G, b < b0) (hl : l.length = n + 1) (hS : ∀ b ∈ G, S b) :
    AnsS shSheet [blsD l] S w (.returned (.agg #[.slice (some ⟨g, 0, none⟩) (n + 1) cap])) we := by
  obtain ⟨F, r, hF⟩ := owns_rep (sh := shSheetBlock) (owns_mks h.row hm fun b hb e => by omega) (h.rep.keep hm fun b hb e => by have := hG b hb; omega)
  refine ⟨[.slice (some ⟨g, 0, none⟩) (n + 1) cap], F ++ [], rfl, ?_, fun b hb => ?_, hm.below (fun b e => by omega) h.bel⟩
  · unfold blsD
    rw [hl]
    exact repSheet_mk r
  · rw [List.append_nil] at hb
    rcases hF b hb with q | q
    · exact Or.inr (by omega)
    · exact Or.inl (hS b q)
def VIb (lv s1 s2 : Value) (k b0 : Nat) (X : Array Value) : Nat → Value → Prop
  | 1, u => u = .pointer (some ⟨b0, 0, none⟩)
  | 2, u => u = lv
  | 3, u => u = .int .i64 (k : Int)
  | 4, u => u = s1
  | 6, u => u = .agg X
  | 9, u => u = .pointer (some ⟨b0, 0, none⟩)
  | 10, u => u = lv
  | 11, u => u = .int .i64 (k : Int)
  | 12, u => u = s2
  | 14, u => u = .pointer (some ⟨b0, 0, none⟩)
  | _, _ => True
def VQa (va : Option Addr) (vc : Nat) (n : Nat) (k : Nat) (b0 : Nat) : Nat → Value → World → Prop
  | 0, u, _ => u = .int .i64 (k : Int)
  | 1, u, _ => u = .pointer (some ⟨b0, 0, none⟩)
  | 2, u, _ => u = .slice va n vc
  | 3, u, _ => u = .int .i64 (n : Int)
  | 4, u, _ => u = .bool false
  | 5, u, _ => u = .bool false
  | 6, u, _ => u = undef
  | 7, u, _ => u = undef
  | 8, u, _ => u = undef
  | 9, u, _ => u = undef
  | 10, u, _ => u = undef
  | 11, u, _ => u = undef
  | 12, u, _ => u = undef
  | 13, u, _ => u = .bool false
  | _, _, _ => True
theorem VQa_mono (va : Option Addr) (vc : Nat) (n : Nat) (k : Nat) (b0 : Nat) : ∀ jj u W W', Below W.heap.size W W' → VQa va vc n k b0 jj u W → VQa va vc n k b0 jj u W' := by
  intro jj u W W' hb h
  match jj with
  | 0 => exact h
  | 1 => exact h
  | 2 => exact h
  | 3 => exact h
  | 4 => exact h
  | 5 => exact h
  | 6 => exact h
  | 7 => exact h
  | 8 => exact h
  | 9 => exact h
  | 10 => exact h
  | 11 => exact h
  | 12 => exact h
  | 13 => exact h
  | n + 14 => exact trivial
def VQb (x : Pl.Bl) (y : Pl.Bl) (va : Option Addr) (xa : Option Addr) (ya : Option Addr) (vc : Nat) (xc : Nat) (yc : Nat) (p : Nat) (o : Nat) (n : Nat) (k : Nat) (b0 : Nat) : Nat → Value → World → Prop
  | 0, u, _ => u = .int .i64 (k : Int)
  | 1, u, _ => u = .pointer (some ⟨b0, 0, none⟩)
  | 2, u, _ => u = .slice va n vc
  | 3, u, _ => u = .int .i64 (n : Int)
  | 4, u, _ => u = .bool true
  | 5, u, _ => u = .bool true
  | 6, u, _ => u = .pointer (some ⟨b0, 0, none⟩)
  | 7, u, _ => u = .slice va n vc
  | 8, u, _ => u = .int .i64 (k : Int)
  | 9, u, _ => u = .pointer (some ⟨p, o + k * 3, none⟩)
  | 10, u, _ => u = .agg #[.string y.kind, .string y.name, .slice ya y.lines.length yc]
  | 11, u, _ => u = .agg #[.string x.kind, .string x.name, .slice xa x.lines.length xc]
  | 12, u, _ => u = .bool true
  | 13, u, _ => u = .bool true
  | _, _, _ => True
theorem VQb_mono (x : Pl.Bl) (y : Pl.Bl) (va : Option Addr) (xa : Option Addr) (ya : Option Addr) (vc : Nat) (xc : Nat) (yc : Nat) (p : Nat) (o : Nat) (n : Nat) (k : Nat) (b0 : Nat) : ∀ jj u W W', Below W.heap.size W W' → VQb x y va xa ya vc xc yc p o n k b0 jj u W → VQb x y va xa ya vc xc yc p o n k b0 jj u W' := by
  intro jj u W W' hb h
  match jj with
  | 0 => exact h
  | 1 => exact h
  | 2 => exact h
  | 3 => exact h
  | 4 => exact h
  | 5 => exact h
  | 6 => exact h
  | 7 => exact h
  | 8 => exact h
  | 9 => exact h
  | 10 => exact h
  | 11 => exact h
  | 12 => exact h
  | 13 => exact h
  | n + 14 => exact trivial
def VQc (x : Pl.Bl) (y : Pl.Bl) (va : Option Addr) (xa : Option Addr) (ya : Option Addr) (vc : Nat) (xc : Nat) (yc : Nat) (p : Nat) (o : Nat) (n : Nat) (k : Nat) (b0 : Nat) : Nat → Value → World → Prop
  | 0, u, _ => u = .int .i64 (k : Int)
  | 1, u, _ => u = .pointer (some ⟨b0, 0, none⟩)
  | 2, u, _ => u = .slice va n vc
  | 3, u, _ => u = .int .i64 (n : Int)
  | 4, u, _ => u = .bool true
  | 5, u, _ => u = .bool true
  | 6, u, _ => u = .pointer (some ⟨b0, 0, none⟩)
  | 7, u, _ => u = .slice va n vc
  | 8, u, _ => u = .int .i64 (k : Int)
  | 9, u, _ => u = .pointer (some ⟨p, o + k * 3, none⟩)
  | 10, u, _ => u = .agg #[.string y.kind, .string y.name, .slice ya y.lines.length yc]
  | 11, u, _ => u = .agg #[.string x.kind, .string x.name, .slice xa x.lines.length xc]
  | 12, u, _ => u = .bool false
  | 13, u, _ => u = .bool false
  | _, _, _ => True
theorem VQc_mono (x : Pl.Bl) (y : Pl.Bl) (va : Option Addr) (xa : Option Addr) (ya : Option Addr) (vc : Nat) (xc : Nat) (yc : Nat) (p : Nat) (o : Nat) (n : Nat) (k : Nat) (b0 : Nat) : ∀ jj u W W', Below W.heap.size W W' → VQc x y va xa ya vc xc yc p o n k b0 jj u W → VQc x y va xa ya vc xc yc p o n k b0 jj u W' := by
  intro jj u W W' hb h
  match jj with
  | 0 => exact h
  | 1 => exact h
  | 2 => exact h
  | 3 => exact h
  | 4 => exact h
  | 5 => exact h
  | 6 => exact h
  | 7 => exact h
  | 8 => exact h
  | 9 => exact h
  | 10 => exact h
  | 11 => exact h
  | 12 => exact h
  | 13 => exact h
  | n + 14 => exact trivial

set_option maxRecDepth 8000 in
set_option maxHeartbeats 8000000 in
theorem l39PutBlockS (s : List Pl.Bl) (x : Pl.Bl) (lv wv : Value) (F Fx : List Nat) (w : World) (h : Rep w false shBls F [blsD s] [lv]) (hx : Rep w false shLns Fx [lnsD x.lines] [wv]) (hl : s.length ≤ 4194304) :
    Calls Tryz.prog 12 #[.agg #[lv], .agg #[.string x.kind, .string x.name, wv]] w (AnsS shSheet [blsD (Pl.putBl s x)] (fun q => q ∈ F ∨ q ∈ Fx) w) := by
  obtain ⟨i0, hi0, hz0, hz1, hz2⟩ := uinfo Tryz.info_block
  obtain ⟨va, vc, ev⟩ := h.raw.len0
  obtain ⟨xa, xc, ex⟩ := hx.raw.len0
  subst ev; subst ex
  obtain ⟨n, hn⟩ : ∃ n, n = s.length := ⟨_, rfl⟩
  have HN := uh hn
  have hnz : n ≤ 4194304 := by omega
  obtain ⟨b0, hb0⟩ : ∃ b0, b0 = w.heap.size := ⟨_, rfl⟩
  have HBZ := uh hb0
  have HFB : Hid (∀ q ∈ F, q < b0) := fun q hq => by rw [hb0]; exact h.lt q hq
  have HFX : Hid (∀ q ∈ Fx ++ [], q < b0) := fun q hq => by rw [hb0]; rw [List.append_nil] at hq; exact hx.lt q hq
  have HXT := uh hx
  have HXR : Hid (Rep w false shSheetBlock (Fx ++ []) (blD x) [.string x.kind, .string x.name, .slice xa x.lines.length xc]) := repSheetBlock_mk x.kind x.name hx
  have HL := uh h
  rw [← hn]
  rw [← hn] at HL
  clear h hx hl hn
  obtain ⟨wa, hwa⟩ : ∃ wa, wa = ((w.alloc (.cells #[.slice va n vc] 24)).alloc (.cells #[.string x.kind, .string x.name, .slice xa x.lines.length xc] 37)).alloc (.cells #[.slice none 0 0] 24) := ⟨_, rfl⟩
  have H0 : Hid (Qt w b0 (.slice va n vc) [.string x.kind, .string x.name, .slice xa x.lines.length xc] wa) := by
    show Qt _ _ _ _ _
    refine ⟨?_, ?_, ?_, ?_⟩
    · rw [hwa]; exact blw_alloc (blw_alloc (blw_alloc (Below.refl _ _) _) _) _
    · rw [hwa, hb0]; exact (WBox.new w [.slice va n vc] 24 _ rfl).later (blw_alloc (blw_alloc (Below.refl _ _) _) _)
    · rw [hwa, hb0]; exact (LBox.new (w.alloc (.cells #[.slice va n vc] 24)) #[.string x.kind, .string x.name, .slice xa x.lines.length xc] 37 _ (by simp)).past _
    · rw [hwa, hb0]; exact WBox.new ((w.alloc (.cells #[.slice va n vc] 24)).alloc (.cells #[.string x.kind, .string x.name, .slice xa x.lines.length xc] 37)) [.slice none 0 0] 24 _ (by simp)
  go_enter Tryz.func12, Tryz.ntmps12
  go_upto_region 1 with fail
  rw [← hwa, ← hb0]
  clear hwa hb0
  go_wp2
  go_loopw [5] (fun vi wr => ∃ k : Nat, k ≤ n ∧ vi = .int .i64 k ∧ Qt w b0 (.slice va n vc) [.string x.kind, .string x.name, .slice xa x.lines.length xc] wr ∧ ∀ j, j < k → Pl.ahead (s.getD j Pl.blNo) x = true) (fun vi _ => n - (intOf vi).toNat)
  case atStart => exact ⟨0, Nat.zero_le _, rfl, H0.out, fun j hj => absurd hj (by omega)⟩
  case round =>
    obtain ⟨k, hk, rfl, hO, hI⟩ := hrel
    have HO := uh hO
    have HI := uh hI
    have HP0 := uh (fun hh => Pl.putAt_at Pl.blNo (fun y => Pl.ahead y x) s x k (by have := HN.out; omega) hI hh)
    clear hO hI H0
    by_cases hlt : k < n
    rotate_left
    · have hgo : ¬ ((k : Int) < (n : Int)) := by omega
      have HPUT : Hid (Pl.putBl s x = s.take k ++ x :: s.drop k) := HP0.out (Or.inl (by have := HN.out; omega))
      have HLN : Hid ((Pl.putBl s x).length = n + 1) := by show _ = _; rw [HPUT.out, List.length_append, List.length_cons, List.length_take, List.length_drop]; have := HN.out; omega
      go_upto_region 2 with fail
      refine RY.region_pastG wr (Below.refl _ _) (VQa va vc n k b0) (VQa_mono _ _ _ _ _) (by kernel_rfl) (by kernel_rfl) (by kernel_rfl) (by kernel_rfl) ?_ ?_
      · intro i o' ho a X hX hk hd
        have z2 := (HO.out.box.later hX).get 0 _ rfl
        have rx := (HO.out.arg.later hX).at_
        match i, ho with
        | 0, ho =>
          injection ho with ho; subst ho
          have e5 : a.tmps[5]?.getD undef = .int .i64 (k : Int) := (RY.ev_tmp a 5).trans ((hk 5 (by kernel_rfl)).trans rfl)
          exact Or.inl ⟨RY.wanted_no rfl, Or.inl ⟨.int .i64 (k : Int), X, by simp [execOp, go_sem, e5], Below.refl _ _, rfl⟩⟩
        | 1, ho =>
          injection ho with ho; subst ho
          have e2 : a.tmps[2]?.getD undef = .pointer (some ⟨b0, 0, none⟩) := (RY.ev_tmp a 2).trans ((hk 2 (by kernel_rfl)).trans rfl)
          exact Or.inl ⟨RY.wanted_no rfl, Or.inl ⟨.pointer (some ⟨b0, 0, none⟩), X, by simp [execOp, go_sem, e2], Below.refl _ _, rfl⟩⟩
        | 2, ho =>
          injection ho with ho; subst ho
          have e7 : a.tmps[7]?.getD undef = _ := (RY.ev_tmp a 7).trans (hd 1 _ 7 rfl rfl ⟨⟨1, .data⟩, by simp, rfl, rfl⟩)
          exact Or.inl ⟨RY.wanted_no rfl, Or.inl ⟨.slice va n vc, X, by simp [execOp, go_sem, e7, z2], Below.refl _ _, rfl⟩⟩
        | 3, ho =>
          injection ho with ho; subst ho
          have e8 : a.tmps[8]?.getD undef = _ := (RY.ev_tmp a 8).trans (hd 2 _ 8 rfl rfl ⟨⟨2, .data⟩, by simp, rfl, rfl⟩)
          exact Or.inl ⟨RY.wanted_no rfl, Or.inl ⟨.int .i64 (n : Int), X, by simp [go_sem, e8], Below.refl _ _, rfl⟩⟩
        | 4, ho =>
          injection ho with ho; subst ho
          have e6 : a.tmps[6]?.getD undef = _ := (RY.ev_tmp a 6).trans (hd 0 _ 6 rfl rfl ⟨⟨0, .data⟩, by simp, rfl, rfl⟩)
          have e9 : a.tmps[9]?.getD undef = _ := (RY.ev_tmp a 9).trans (hd 3 _ 9 rfl rfl ⟨⟨3, .data⟩, by simp, rfl, rfl⟩)
          exact Or.inl ⟨RY.wanted_no rfl, Or.inl ⟨.bool false, X, by simp [execOp, go_sem, e6, e9, hgo], Below.refl _ _, rfl⟩⟩
        | 5, ho =>
          injection ho with ho; subst ho
          have e10 : a.tmps[10]?.getD undef = _ := (RY.ev_tmp a 10).trans (hd 4 _ 10 rfl rfl ⟨⟨4, .data⟩, by simp, rfl, rfl⟩)
          exact Or.inl ⟨RY.wanted_no rfl, Or.inl ⟨.bool false, X, by simp [execOp, go_sem, e10], Below.refl _ _, rfl⟩⟩
        | 6, ho =>
          injection ho with ho; subst ho
          have gd := hd 5 _ 11 rfl rfl ⟨⟨5, .guard⟩, by simp, rfl, rfl⟩
          exact Or.inr ⟨(RY.wanted_at rfl rfl rfl gd).trans rfl, rfl⟩
        | 7, ho =>
          injection ho with ho; subst ho
          have gd := hd 5 _ 11 rfl rfl ⟨⟨5, .guard⟩, by simp, rfl, rfl⟩
          exact Or.inr ⟨(RY.wanted_at rfl rfl rfl gd).trans rfl, rfl⟩
        | 8, ho =>
          injection ho with ho; subst ho
          have gd := hd 5 _ 11 rfl rfl ⟨⟨5, .guard⟩, by simp, rfl, rfl⟩
          exact Or.inr ⟨(RY.wanted_at rfl rfl rfl gd).trans rfl, rfl⟩
        | 9, ho =>
          injection ho with ho; subst ho
          have gd := hd 5 _ 11 rfl rfl ⟨⟨5, .guard⟩, by simp, rfl, rfl⟩
          exact Or.inr ⟨(RY.wanted_at rfl rfl rfl gd).trans rfl, rfl⟩
        | 10, ho =>
          injection ho with ho; subst ho
          have gd := hd 5 _ 11 rfl rfl ⟨⟨5, .guard⟩, by simp, rfl, rfl⟩
          exact Or.inr ⟨(RY.wanted_at rfl rfl rfl gd).trans rfl, rfl⟩
        | 11, ho =>
          injection ho with ho; subst ho
          have gd := hd 5 _ 11 rfl rfl ⟨⟨5, .guard⟩, by simp, rfl, rfl⟩
          exact Or.inr ⟨(RY.wanted_at rfl rfl rfl gd).trans rfl, rfl⟩
        | 12, ho =>
          injection ho with ho; subst ho
          have gd := hd 5 _ 11 rfl rfl ⟨⟨5, .guard⟩, by simp, rfl, rfl⟩
          exact Or.inr ⟨(RY.wanted_at rfl rfl rfl gd).trans rfl, rfl⟩
        | 13, ho =>
          injection ho with ho; subst ho
          have e11 : a.tmps[11]?.getD undef = _ := (RY.ev_tmp a 11).trans (hd 5 _ 11 rfl rfl ⟨⟨5, .data⟩, by simp, rfl, rfl⟩)
          have e18 : a.tmps[18]?.getD undef = _ := (RY.ev_tmp a 18).trans (hd 12 _ 18 rfl rfl ⟨⟨12, .data⟩, by simp, rfl, rfl⟩)
          exact Or.inl ⟨RY.wanted_no rfl, Or.inl ⟨.bool false, X, by simp [execOp, go_sem, e11, e18], Below.refl _ _, rfl⟩⟩
        | n + 14, ho => simp at ho
      intro X vs hX hvs
      have q19 : vs 19 = _ := hvs 13 _ 19 rfl rfl
      simp only [RY.putAll, Act.put, List.setIfInBounds_toArray, List.set_cons_zero, List.set_cons_succ]
      rw [q19]
      generalize vs 6 = s6
      generalize vs 7 = s7
      generalize vs 8 = s8
      generalize vs 9 = s9
      generalize vs 10 = s10
      generalize vs 11 = s11
      generalize vs 12 = s12
      generalize vs 13 = s13
      generalize vs 14 = s14
      generalize vs 15 = s15
      generalize vs 16 = s16
      generalize vs 17 = s17
      generalize vs 18 = s18
      clear hvs q19
      have HO2 := uh (HO.out.later hX)
      clear hX HO
      obtain ⟨lv, hlv⟩ : ∃ z, z = Value.slice va n vc := ⟨_, rfl⟩
      have HRL : Hid (Rep X false shBls F [blsD s] [lv]) := by show Rep _ _ _ _ _ _; rw [hlv]; exact HL.out.later HO2.out.bel
      rw [← hlv] at HO2
      clear hlv
      obtain ⟨s1, s2, vs, G, hR, hGF, hl1, hl2, hs1, hs2⟩ := lst_cut (P := Tryz.prog) (t := 22) Tryz.under_blocksE (Tryz.elem_blocks ▸ hi0) hz1 HRL.out k (by have := HN.out; omega)
      obtain ⟨G2, hR2, hG2⟩ := ins_rep (sh := shSheetBlock) blD blD_len (k := k) (x := x) (by have := HN.out; omega) hR (HXR.out.later HO2.out.bel)
      have hvl : vs.length = n * 3 := by rw [hR.len, reps_len, ← HN.out]; rfl
      have hkn2 : k * 3 ≤ n * 3 := by omega
      rw [← HPUT.out] at hR2
      rw [← HN.out] at hR2 hl2
      have HS1 := uh hs1
      have HS2 := uh hs2
      have HL1 := uh hl1
      have HL2 := uh hl2
      have HG2 : Hid (∀ b ∈ G2, b < b0) := fun b hb => by rcases hG2 b hb with h | h; exact HFB.out b (hGF b h); exact HFX.out b h
      have HIN := uh hG2
      have HGF := uh hGF
      have HR2 := uh hR2
      clear hs1 hs2 hl1 hl2 hR hGF hR2 hG2 HRL
      go_upto_region 4 with fail
      refine RY.region_ins X (Below.refl _ _) 37 3 k (k + 1) (n + 1) (vs.take (k * 3)) (vs.take (k * 3) ++ [.string x.kind, .string x.name, .slice xa x.lines.length xc]) (vs.take (k * 3) ++ [.string x.kind, .string x.name, .slice xa x.lines.length xc] ++ vs.drop (k * 3)) #[.string x.kind, .string x.name, .slice xa x.lines.length xc] (VIb lv s1 s2 k b0 #[.string x.kind, .string x.name, .slice xa x.lines.length xc]) (fun u W' => QtK w b0 n u G2 ((Pl.putBl s x).flatMap blD) (vs.take (k * 3) ++ [.string x.kind, .string x.name, .slice xa x.lines.length xc] ++ vs.drop (k * 3)) W') 12 22 27 29 30 35 36 (by kernel_rfl) (by kernel_rfl) (by kernel_rfl) (by kernel_rfl) (by kernel_rfl) rfl (by kernel_rfl) _ _ _ _ _ _ _ rfl rfl rfl rfl rfl rfl rfl rfl rfl rfl rfl rfl rfl rfl (by kernel_rfl) (by kernel_rfl) (by kernel_rfl) (by kernel_rfl) (by kernel_rfl) (by kernel_rfl) ?_ ?_ ?_ ?_ ?_ ?_ ?_ ?_ ?_
      · intro i u h
        rcases h with rfl | rfl | rfl | rfl | rfl <;> exact trivial
      · intro i o' ho n0 n5 n7 n8 n13 n15 a Y hY hk hd
        have z2 := (HO2.out.box.later hY).get 0 _ rfl
        have rx := (HO2.out.arg.later hY).at_
        match i, ho with
        | 0, ho => exact absurd rfl n0
        | 1, ho =>
          injection ho with ho; subst ho
          have e2 : a.tmps[2]?.getD undef = .pointer (some ⟨b0, 0, none⟩) := (RY.ev_tmp a 2).trans ((hk 2 (by kernel_rfl)).trans rfl)
          exact ⟨.pointer (some ⟨b0, 0, none⟩), by simp [execOp, go_sem, e2], rfl⟩
        | 2, ho =>
          injection ho with ho; subst ho
          have e23 : a.tmps[23]?.getD undef = _ := (RY.ev_tmp a 23).trans (hd 1 _ 23 rfl rfl ⟨⟨1, .data⟩, by simp, rfl, rfl⟩)
          exact ⟨lv, by simp [execOp, go_sem, e23, z2], rfl⟩
        | 3, ho =>
          injection ho with ho; subst ho
          have e5 : a.tmps[5]?.getD undef = .int .i64 (k : Int) := (RY.ev_tmp a 5).trans ((hk 5 (by kernel_rfl)).trans rfl)
          exact ⟨.int .i64 (k : Int), by simp [execOp, go_sem, e5], rfl⟩
        | 4, ho =>
          injection ho with ho; subst ho
          have f24 : a.eval (.tmp 24) = lv := hd 2 _ 24 rfl rfl ⟨⟨2, .data⟩, by simp, rfl, rfl⟩
          have f25 : a.eval (.tmp 25) = .int .i64 (k : Int) := hd 3 _ 25 rfl rfl ⟨⟨3, .data⟩, by simp, rfl, rfl⟩
          exact ⟨s1, by simp [execOp, f24, f25, run_sliceAt_slice (P := Tryz.prog) (w := Y) 22 lv none (some (.int .i64 (k : Int))) none Tryz.under_blocksE, HS1.out], rfl⟩
        | 5, ho => exact absurd rfl n5
        | 6, ho =>
          injection ho with ho; subst ho
          have e3 : a.tmps[3]?.getD undef = .pointer (some ⟨b0 + 1, 0, none⟩) := (RY.ev_tmp a 3).trans ((hk 3 (by kernel_rfl)).trans rfl)
          exact ⟨.agg #[.string x.kind, .string x.name, .slice xa x.lines.length xc], exec_load_mid 37 _ rfl (b0 + 1) 0 ((RY.ev_tmp a 3).symm.trans e3) [.string x.kind, .string x.name, .slice xa x.lines.length xc] _ rx Tryz.underlying37 rfl (by kernel_rfl), rfl⟩
        | 7, ho => exact absurd rfl n7
        | 8, ho => exact absurd rfl n8
        | 9, ho =>
          injection ho with ho; subst ho
          have e2 : a.tmps[2]?.getD undef = .pointer (some ⟨b0, 0, none⟩) := (RY.ev_tmp a 2).trans ((hk 2 (by kernel_rfl)).trans rfl)
          exact ⟨.pointer (some ⟨b0, 0, none⟩), by simp [execOp, go_sem, e2], rfl⟩
        | 10, ho =>
          injection ho with ho; subst ho
          have e31 : a.tmps[31]?.getD undef = _ := (RY.ev_tmp a 31).trans (hd 9 _ 31 rfl rfl ⟨⟨9, .data⟩, by simp, rfl, rfl⟩)
          exact ⟨lv, by simp [execOp, go_sem, e31, z2], rfl⟩
        | 11, ho =>
          injection ho with ho; subst ho
          have e5 : a.tmps[5]?.getD undef = .int .i64 (k : Int) := (RY.ev_tmp a 5).trans ((hk 5 (by kernel_rfl)).trans rfl)
          exact ⟨.int .i64 (k : Int), by simp [execOp, go_sem, e5], rfl⟩
        | 12, ho =>
          injection ho with ho; subst ho
          have f32 : a.eval (.tmp 32) = lv := hd 10 _ 32 rfl rfl ⟨⟨10, .data⟩, by simp, rfl, rfl⟩
          have f33 : a.eval (.tmp 33) = .int .i64 (k : Int) := hd 11 _ 33 rfl rfl ⟨⟨11, .data⟩, by simp, rfl, rfl⟩
          exact ⟨s2, by simp [execOp, f32, f33, run_sliceAt_slice (P := Tryz.prog) (w := Y) 22 lv (some (.int .i64 (k : Int))) none none Tryz.under_blocksE, HS2.out], rfl⟩
        | 13, ho => exact absurd rfl n13
        | 14, ho =>
          injection ho with ho; subst ho
          have e2 : a.tmps[2]?.getD undef = .pointer (some ⟨b0, 0, none⟩) := (RY.ev_tmp a 2).trans ((hk 2 (by kernel_rfl)).trans rfl)
          exact ⟨.pointer (some ⟨b0, 0, none⟩), by simp [execOp, go_sem, e2], rfl⟩
        | 15, ho => exact absurd rfl n15
        | n + 16, ho => simp at ho
      · intro a Y
        simp [execOp, go_sem]
      · intro a Y hd
        have e28 : a.tmps[28]?.getD undef = _ := (RY.ev_tmp a 28).trans (hd 6 _ 28 rfl rfl ⟨⟨6, .data⟩, by simp, rfl, rfl⟩)
        simp [execOp, go_sem, e28]
      · intro a Y hY hd ho
        have e26 := hd 4 _ 26 rfl rfl ⟨⟨4, .data⟩, by simp, rfl, rfl⟩
        obtain ⟨u, W', hr, hA⟩ := app_lst 22 22 37 i0 _ 3 56 Tryz.under_blocks hi0 hz0 hz1 hz2 rfl (by decide) HL1.out hY ho (by unfold maxLen; omega) (by omega)
        rw [Nat.zero_add, List.nil_append] at hA
        exact ⟨u, W', uexec_append (.tmp 22) (.tmp 26) 22 rfl rfl e26 hr, hA⟩
      · intro a Y hY ho q eq hq
        obtain ⟨u, W', hr, h2, h3, _, h5⟩ := run_append_own_at (P := Tryz.prog) Y X.heap.size 22 22 37 i0 _ 3 56 Tryz.under_blocks hi0 hz0 hz1 hz2 rfl (by decide) _ k _ ho ⟨q, 0, none⟩ 1 1 [.string x.kind, .string x.name, .slice xa x.lines.length xc] rfl (fun j y hy => by rw [Addr.add_mid, Nat.zero_add]; simp only [World.cell?, hq]; simpa using hy) (by simp [Value.oneCell']) (by unfold maxLen; omega) (by omega) hY.size
        exact ⟨u, W', uexec_append (.tmp 27) (.tmp 29) 22 rfl rfl eq hr, h2, h3, h5⟩
      · intro a Y hY hd ho
        have e34 := hd 12 _ 34 rfl rfl ⟨⟨12, .data⟩, by simp, rfl, rfl⟩
        obtain ⟨u, W', hr, hA⟩ := app_lst 22 22 37 i0 _ 3 56 Tryz.under_blocks hi0 hz0 hz1 hz2 rfl (by decide) HL2.out hY ho (by unfold maxLen; omega) (by omega)
        have en : k + 1 + (n - k) = n + 1 := by omega
        rw [en] at hA
        exact ⟨u, W', uexec_append (.tmp 30) (.tmp 34) 22 rfl rfl e34 hr, hA⟩
      · intro a Y hY h14 ho
        obtain ⟨g, cap, eu, _, _⟩ := ho.form (by omega)
        have t35 := (RY.ev_tmp a 35).trans eu
        have t36 : a.tmps[36]?.getD undef = _ := (RY.ev_tmp a 36).trans h14
        have B1 := HO2.out.box.later hY
        have z2 := B1.get 0 _ rfl
        have zf := B1.own.frozen 0
        refine ⟨Y.setCell ⟨b0, 0, none⟩ (.slice (some ⟨g, 0, none⟩) (n + 1) cap), by simp [execOp, go_sem, t35, t36, z2, zf], ?_⟩
        rw [eu] at ho ⊢
        exact QtK.mk' HBZ.out (HO2.out.later hY) (by have := HO2.out.res.own.lt; omega) ho (HR2.out.later hY) HG2.out
      · rintro vals W hK
        simp only [RY.putAll, Act.put, List.setIfInBounds_toArray, List.set_cons_zero, List.set_cons_succ]
        generalize vals 22 = s22
        generalize vals 23 = s23
        generalize vals 24 = s24
        generalize vals 25 = s25
        generalize vals 26 = s26
        generalize vals 27 = s27
        generalize vals 28 = s28
        generalize vals 29 = s29
        generalize vals 30 = s30
        generalize vals 31 = s31
        generalize vals 32 = s32
        generalize vals 33 = s33
        generalize vals 34 = s34
        generalize vals 35 = s35 at hK ⊢
        generalize vals 36 = s36
        obtain ⟨g, cap, eu⟩ := hK.form
        subst eu
        have HK := uh hK
        clear hK HO2 HS1 HS2 HL1 HL2 HR2
        go_upto_region 5 with fail
        have hxa := HK.out.box.at_
        have hxl := HK.out.box.own.lt
        have hol := HK.out.res.own.lt
        have hth : W.there (b0 + 2) 0 (#[.slice (some ⟨g, 0, none⟩) (n + 1) cap] : Array Value).size := uthere HK.out.res.own _ _ (by simp)
        obtain ⟨we, hwe⟩ : ∃ we, we = W.setCells (b0 + 2) 0 [.slice (some ⟨g, 0, none⟩) (n + 1) cap] := ⟨_, rfl⟩
        have hrt : we.rangeAt (b0 + 2) 0 [.slice (some ⟨g, 0, none⟩) (n + 1) cap] := by rw [hwe]; exact World.rangeAt_setCells_same _ _ _ _ hth
        have HM2 : Hid (Marks (fun b => b = b0 + 2) W we) := by show Marks _ _ _; rw [hwe]; exact mks_scs (S := fun b => b = b0 + 2) rfl _ _ _
        go_wp2_with (first | (refine wpList_load_mid rfl 24 _ rfl b0 0 rfl [.slice (some ⟨g, 0, none⟩) (n + 1) cap] _ hxa Tryz.underlying24 rfl (by kernel_rfl) ?_) | (refine wpList_store_mid rfl 24 _ _ rfl (b0 + 2) 0 #[.slice (some ⟨g, 0, none⟩) (n + 1) cap] rfl rfl hth (by kernel_rfl) (by simp [Value.oneCell']) ?_))
        first | rw [← hwe] | (simp only [List.toList_toArray]; rw [← hwe])
        try simp only [Act.put]
        refine bodyPost_ret (v := .agg #[.slice (some ⟨g, 0, none⟩) (n + 1) cap]) (by simp [results, Tryz.results12, asAddr, run_loadVar_mid (P := Tryz.prog) _ _ _ 24 [.slice (some ⟨g, 0, none⟩) (n + 1) cap] _ hrt Tryz.underlying24 rfl (by kernel_rfl)]) rfl ?_
        exact HK.out.ans HBZ.out HM2.out HG2.out HLN.out (fun b hb => by rcases HIN.out b hb with h | h; exact Or.inl (HGF.out b h); exact Or.inr (by simpa using h))
    have hkL : k < s.length := by have := HN.out; omega
    rcases bls_open (HL.out.later HO.out.bel).raw with ⟨e0, _⟩ | ⟨p, o, c, hv, hp, hml, hopen⟩
    · omega
    rw [← HN.out] at hv
    injection hv with g1 _ g3
    subst g1; subst g3
    obtain ⟨ya, yc, hgy, hry⟩ := hopen k hkL
    obtain ⟨y, hy⟩ : ∃ y, y = s.getD k Pl.blNo := ⟨_, rfl⟩
    rw [← hy] at hgy hry
    have HY := uh hy
    have HGY := uh hgy
    have HPZ := uh hp
    have HXW := uh (HXT.out.later HO.out.bel)
    have HRY := uh hry
    have hgo : (k : Int) < (n : Int) := by omega
    have hk0 : (0 : Int) ≤ (k : Int) := by omega
    have hkn : (k : Int) < (n : Int) := by omega
    clear hy hgy hry hp hopen hml
    cases hls : Pl.ahead y x
    · have HCL : Hid (∀ X, Below wr.heap.size wr X → Calls Tryz.prog 23 #[.agg #[.string y.kind, .string y.name, .slice ya y.lines.length yc], .agg #[.string x.kind, .string x.name, .slice xa x.lines.length xc]] X fun e w' => e = .returned (.bool false) ∧ Below X.heap.size X w') := fun X hX => by
        have := l39AheadS y x (.slice ya y.lines.length yc) (.slice xa x.lines.length xc) X
        rwa [hls] at this
      have HPUT : Hid (Pl.putBl s x = s.take k ++ x :: s.drop k) := HP0.out (Or.inr (by rw [← HY.out]; exact hls))
      have HLN : Hid ((Pl.putBl s x).length = n + 1) := by show _ = _; rw [HPUT.out, List.length_append, List.length_cons, List.length_take, List.length_drop]; have := HN.out; omega
      go_upto_region 2 with fail
      refine RY.region_pastG wr (Below.refl _ _) (VQc x y (some ⟨p, o, none⟩) xa ya vc xc yc p o n k b0) (VQc_mono _ _ _ _ _ _ _ _ _ _ _ _ _) (by kernel_rfl) (by kernel_rfl) (by kernel_rfl) (by kernel_rfl) ?_ ?_
      · intro i o' ho a X hX hk hd
        have z2 := (HO.out.box.later hX).get 0 _ rfl
        have rx := (HO.out.arg.later hX).at_
        have ry := rA_later HGY.out HPZ.out hX
        match i, ho with
        | 0, ho =>
          injection ho with ho; subst ho
          have e5 : a.tmps[5]?.getD undef = .int .i64 (k : Int) := (RY.ev_tmp a 5).trans ((hk 5 (by kernel_rfl)).trans rfl)
          exact Or.inl ⟨RY.wanted_no rfl, Or.inl ⟨.int .i64 (k : Int), X, by simp [execOp, go_sem, e5], Below.refl _ _, rfl⟩⟩
        | 1, ho =>
          injection ho with ho; subst ho
          have e2 : a.tmps[2]?.getD undef = .pointer (some ⟨b0, 0, none⟩) := (RY.ev_tmp a 2).trans ((hk 2 (by kernel_rfl)).trans rfl)
          exact Or.inl ⟨RY.wanted_no rfl, Or.inl ⟨.pointer (some ⟨b0, 0, none⟩), X, by simp [execOp, go_sem, e2], Below.refl _ _, rfl⟩⟩
        | 2, ho =>
          injection ho with ho; subst ho
          have e7 : a.tmps[7]?.getD undef = _ := (RY.ev_tmp a 7).trans (hd 1 _ 7 rfl rfl ⟨⟨1, .data⟩, by simp, rfl, rfl⟩)
          exact Or.inl ⟨RY.wanted_no rfl, Or.inl ⟨.slice (some ⟨p, o, none⟩) n vc, X, by simp [execOp, go_sem, e7, z2], Below.refl _ _, rfl⟩⟩
        | 3, ho =>
          injection ho with ho; subst ho
          have e8 : a.tmps[8]?.getD undef = _ := (RY.ev_tmp a 8).trans (hd 2 _ 8 rfl rfl ⟨⟨2, .data⟩, by simp, rfl, rfl⟩)
          exact Or.inl ⟨RY.wanted_no rfl, Or.inl ⟨.int .i64 (n : Int), X, by simp [go_sem, e8], Below.refl _ _, rfl⟩⟩
        | 4, ho =>
          injection ho with ho; subst ho
          have e6 : a.tmps[6]?.getD undef = _ := (RY.ev_tmp a 6).trans (hd 0 _ 6 rfl rfl ⟨⟨0, .data⟩, by simp, rfl, rfl⟩)
          have e9 : a.tmps[9]?.getD undef = _ := (RY.ev_tmp a 9).trans (hd 3 _ 9 rfl rfl ⟨⟨3, .data⟩, by simp, rfl, rfl⟩)
          exact Or.inl ⟨RY.wanted_no rfl, Or.inl ⟨.bool true, X, by simp [execOp, go_sem, e6, e9, hgo], Below.refl _ _, rfl⟩⟩
        | 5, ho =>
          injection ho with ho; subst ho
          have e10 : a.tmps[10]?.getD undef = _ := (RY.ev_tmp a 10).trans (hd 4 _ 10 rfl rfl ⟨⟨4, .data⟩, by simp, rfl, rfl⟩)
          exact Or.inl ⟨RY.wanted_no rfl, Or.inl ⟨.bool true, X, by simp [execOp, go_sem, e10], Below.refl _ _, rfl⟩⟩
        | 6, ho =>
          injection ho with ho; subst ho
          have gd := hd 5 _ 11 rfl rfl ⟨⟨5, .guard⟩, by simp, rfl, rfl⟩
          have e2 : a.tmps[2]?.getD undef = .pointer (some ⟨b0, 0, none⟩) := (RY.ev_tmp a 2).trans ((hk 2 (by kernel_rfl)).trans rfl)
          exact Or.inl ⟨(RY.wanted_at rfl rfl rfl gd).trans rfl, Or.inl ⟨.pointer (some ⟨b0, 0, none⟩), X, by simp [execOp, go_sem, e2], Below.refl _ _, rfl⟩⟩
        | 7, ho =>
          injection ho with ho; subst ho
          have gd := hd 5 _ 11 rfl rfl ⟨⟨5, .guard⟩, by simp, rfl, rfl⟩
          have e12 : a.tmps[12]?.getD undef = _ := (RY.ev_tmp a 12).trans (hd 6 _ 12 rfl rfl ⟨⟨6, .data⟩, by simp, rfl, rfl⟩)
          exact Or.inl ⟨(RY.wanted_at rfl rfl rfl gd).trans rfl, Or.inl ⟨.slice (some ⟨p, o, none⟩) n vc, X, by simp [execOp, go_sem, e12, z2], Below.refl _ _, rfl⟩⟩
        | 8, ho =>
          injection ho with ho; subst ho
          have gd := hd 5 _ 11 rfl rfl ⟨⟨5, .guard⟩, by simp, rfl, rfl⟩
          have e5 : a.tmps[5]?.getD undef = .int .i64 (k : Int) := (RY.ev_tmp a 5).trans ((hk 5 (by kernel_rfl)).trans rfl)
          exact Or.inl ⟨(RY.wanted_at rfl rfl rfl gd).trans rfl, Or.inl ⟨.int .i64 (k : Int), X, by simp [execOp, go_sem, e5], Below.refl _ _, rfl⟩⟩
        | 9, ho =>
          injection ho with ho; subst ho
          have gd := hd 5 _ 11 rfl rfl ⟨⟨5, .guard⟩, by simp, rfl, rfl⟩
          have e13 : a.tmps[13]?.getD undef = _ := (RY.ev_tmp a 13).trans (hd 7 _ 13 rfl rfl ⟨⟨7, .data⟩, by simp, rfl, rfl⟩)
          have e14 : a.tmps[14]?.getD undef = _ := (RY.ev_tmp a 14).trans (hd 8 _ 14 rfl rfl ⟨⟨8, .data⟩, by simp, rfl, rfl⟩)
          exact Or.inl ⟨(RY.wanted_at rfl rfl rfl gd).trans rfl, Or.inl ⟨.pointer (some ⟨p, o + k * 3, none⟩), X, by simp [execOp, go_sem, e13, e14, hk0, hkn], Below.refl _ _, rfl⟩⟩
        | 10, ho =>
          injection ho with ho; subst ho
          have gd := hd 5 _ 11 rfl rfl ⟨⟨5, .guard⟩, by simp, rfl, rfl⟩
          have e15 : a.tmps[15]?.getD undef = _ := (RY.ev_tmp a 15).trans (hd 9 _ 15 rfl rfl ⟨⟨9, .data⟩, by simp, rfl, rfl⟩)
          exact Or.inl ⟨(RY.wanted_at rfl rfl rfl gd).trans rfl, Or.inl ⟨.agg #[.string y.kind, .string y.name, .slice ya y.lines.length yc], X, exec_load_mid 37 _ rfl p (o + k * 3) ((RY.ev_tmp a 15).symm.trans e15) [.string y.kind, .string y.name, .slice ya y.lines.length yc] _ ry Tryz.underlying37 rfl (by kernel_rfl), Below.refl _ _, rfl⟩⟩
        | 11, ho =>
          injection ho with ho; subst ho
          have gd := hd 5 _ 11 rfl rfl ⟨⟨5, .guard⟩, by simp, rfl, rfl⟩
          have e3 : a.tmps[3]?.getD undef = .pointer (some ⟨b0 + 1, 0, none⟩) := (RY.ev_tmp a 3).trans ((hk 3 (by kernel_rfl)).trans rfl)
          exact Or.inl ⟨(RY.wanted_at rfl rfl rfl gd).trans rfl, Or.inl ⟨.agg #[.string x.kind, .string x.name, .slice xa x.lines.length xc], X, exec_load_mid 37 _ rfl (b0 + 1) 0 ((RY.ev_tmp a 3).symm.trans e3) [.string x.kind, .string x.name, .slice xa x.lines.length xc] _ rx Tryz.underlying37 rfl (by kernel_rfl), Below.refl _ _, rfl⟩⟩
        | 12, ho =>
          injection ho with ho; subst ho
          have gd := hd 5 _ 11 rfl rfl ⟨⟨5, .guard⟩, by simp, rfl, rfl⟩
          have e16 : a.tmps[16]?.getD undef = _ := (RY.ev_tmp a 16).trans (hd 10 _ 16 rfl rfl ⟨⟨10, .data⟩, by simp, rfl, rfl⟩)
          have e17 : a.tmps[17]?.getD undef = _ := (RY.ev_tmp a 17).trans (hd 11 _ 17 rfl rfl ⟨⟨11, .data⟩, by simp, rfl, rfl⟩)
          refine Or.inl ⟨(RY.wanted_at rfl rfl rfl gd).trans rfl, Or.inr ⟨23, #[.agg #[.string y.kind, .string y.name, .slice ya y.lines.length yc], .agg #[.string x.kind, .string x.name, .slice xa x.lines.length xc]], by simp [go_sem, e16, e17], (HCL.out X hX).mono ?_⟩⟩
          rintro e W' ⟨rfl, hb⟩
          exact ⟨_, rfl, hb, rfl⟩
        | 13, ho =>
          injection ho with ho; subst ho
          have e11 : a.tmps[11]?.getD undef = _ := (RY.ev_tmp a 11).trans (hd 5 _ 11 rfl rfl ⟨⟨5, .data⟩, by simp, rfl, rfl⟩)
          have e18 : a.tmps[18]?.getD undef = _ := (RY.ev_tmp a 18).trans (hd 12 _ 18 rfl rfl ⟨⟨12, .data⟩, by simp, rfl, rfl⟩)
          exact Or.inl ⟨RY.wanted_no rfl, Or.inl ⟨.bool false, X, by simp [execOp, go_sem, e11, e18], Below.refl _ _, rfl⟩⟩
        | n + 14, ho => simp at ho
      intro X vs hX hvs
      have q19 : vs 19 = _ := hvs 13 _ 19 rfl rfl
      simp only [RY.putAll, Act.put, List.setIfInBounds_toArray, List.set_cons_zero, List.set_cons_succ]
      rw [q19]
      generalize vs 6 = s6
      generalize vs 7 = s7
      generalize vs 8 = s8
      generalize vs 9 = s9
      generalize vs 10 = s10
      generalize vs 11 = s11
      generalize vs 12 = s12
      generalize vs 13 = s13
      generalize vs 14 = s14
      generalize vs 15 = s15
      generalize vs 16 = s16
      generalize vs 17 = s17
      generalize vs 18 = s18
      clear hvs q19
      have HO2 := uh (HO.out.later hX)
      clear hX HO
      obtain ⟨lv, hlv⟩ : ∃ z, z = Value.slice (some ⟨p, o, none⟩) n vc := ⟨_, rfl⟩
      have HRL : Hid (Rep X false shBls F [blsD s] [lv]) := by show Rep _ _ _ _ _ _; rw [hlv]; exact HL.out.later HO2.out.bel
      rw [← hlv] at HO2
      clear hlv
      obtain ⟨s1, s2, vs, G, hR, hGF, hl1, hl2, hs1, hs2⟩ := lst_cut (P := Tryz.prog) (t := 22) Tryz.under_blocksE (Tryz.elem_blocks ▸ hi0) hz1 HRL.out k (by have := HN.out; omega)
      obtain ⟨G2, hR2, hG2⟩ := ins_rep (sh := shSheetBlock) blD blD_len (k := k) (x := x) (by have := HN.out; omega) hR (HXR.out.later HO2.out.bel)
      have hvl : vs.length = n * 3 := by rw [hR.len, reps_len, ← HN.out]; rfl
      have hkn2 : k * 3 ≤ n * 3 := by omega
      rw [← HPUT.out] at hR2
      rw [← HN.out] at hR2 hl2
      have HS1 := uh hs1
      have HS2 := uh hs2
      have HL1 := uh hl1
      have HL2 := uh hl2
      have HG2 : Hid (∀ b ∈ G2, b < b0) := fun b hb => by rcases hG2 b hb with h | h; exact HFB.out b (hGF b h); exact HFX.out b h
      have HIN := uh hG2
      have HGF := uh hGF
      have HR2 := uh hR2
      clear hs1 hs2 hl1 hl2 hR hGF hR2 hG2 HRL
      go_upto_region 4 with fail
      refine RY.region_ins X (Below.refl _ _) 37 3 k (k + 1) (n + 1) (vs.take (k * 3)) (vs.take (k * 3) ++ [.string x.kind, .string x.name, .slice xa x.lines.length xc]) (vs.take (k * 3) ++ [.string x.kind, .string x.name, .slice xa x.lines.length xc] ++ vs.drop (k * 3)) #[.string x.kind, .string x.name, .slice xa x.lines.length xc] (VIb lv s1 s2 k b0 #[.string x.kind, .string x.name, .slice xa x.lines.length xc]) (fun u W' => QtK w b0 n u G2 ((Pl.putBl s x).flatMap blD) (vs.take (k * 3) ++ [.string x.kind, .string x.name, .slice xa x.lines.length xc] ++ vs.drop (k * 3)) W') 12 22 27 29 30 35 36 (by kernel_rfl) (by kernel_rfl) (by kernel_rfl) (by kernel_rfl) (by kernel_rfl) rfl (by kernel_rfl) _ _ _ _ _ _ _ rfl rfl rfl rfl rfl rfl rfl rfl rfl rfl rfl rfl rfl rfl (by kernel_rfl) (by kernel_rfl) (by kernel_rfl) (by kernel_rfl) (by kernel_rfl) (by kernel_rfl) ?_ ?_ ?_ ?_ ?_ ?_ ?_ ?_ ?_
      · intro i u h
        rcases h with rfl | rfl | rfl | rfl | rfl <;> exact trivial
      · intro i o' ho n0 n5 n7 n8 n13 n15 a Y hY hk hd
        have z2 := (HO2.out.box.later hY).get 0 _ rfl
        have rx := (HO2.out.arg.later hY).at_
        match i, ho with
        | 0, ho => exact absurd rfl n0
        | 1, ho =>
          injection ho with ho; subst ho
          have e2 : a.tmps[2]?.getD undef = .pointer (some ⟨b0, 0, none⟩) := (RY.ev_tmp a 2).trans ((hk 2 (by kernel_rfl)).trans rfl)
          exact ⟨.pointer (some ⟨b0, 0, none⟩), by simp [execOp, go_sem, e2], rfl⟩
        | 2, ho =>
          injection ho with ho; subst ho
          have e23 : a.tmps[23]?.getD undef = _ := (RY.ev_tmp a 23).trans (hd 1 _ 23 rfl rfl ⟨⟨1, .data⟩, by simp, rfl, rfl⟩)
          exact ⟨lv, by simp [execOp, go_sem, e23, z2], rfl⟩
        | 3, ho =>
          injection ho with ho; subst ho
          have e5 : a.tmps[5]?.getD undef = .int .i64 (k : Int) := (RY.ev_tmp a 5).trans ((hk 5 (by kernel_rfl)).trans rfl)
          exact ⟨.int .i64 (k : Int), by simp [execOp, go_sem, e5], rfl⟩
        | 4, ho =>
          injection ho with ho; subst ho
          have f24 : a.eval (.tmp 24) = lv := hd 2 _ 24 rfl rfl ⟨⟨2, .data⟩, by simp, rfl, rfl⟩
          have f25 : a.eval (.tmp 25) = .int .i64 (k : Int) := hd 3 _ 25 rfl rfl ⟨⟨3, .data⟩, by simp, rfl, rfl⟩
          exact ⟨s1, by simp [execOp, f24, f25, run_sliceAt_slice (P := Tryz.prog) (w := Y) 22 lv none (some (.int .i64 (k : Int))) none Tryz.under_blocksE, HS1.out], rfl⟩
        | 5, ho => exact absurd rfl n5
        | 6, ho =>
          injection ho with ho; subst ho
          have e3 : a.tmps[3]?.getD undef = .pointer (some ⟨b0 + 1, 0, none⟩) := (RY.ev_tmp a 3).trans ((hk 3 (by kernel_rfl)).trans rfl)
          exact ⟨.agg #[.string x.kind, .string x.name, .slice xa x.lines.length xc], exec_load_mid 37 _ rfl (b0 + 1) 0 ((RY.ev_tmp a 3).symm.trans e3) [.string x.kind, .string x.name, .slice xa x.lines.length xc] _ rx Tryz.underlying37 rfl (by kernel_rfl), rfl⟩
        | 7, ho => exact absurd rfl n7
        | 8, ho => exact absurd rfl n8
        | 9, ho =>
          injection ho with ho; subst ho
          have e2 : a.tmps[2]?.getD undef = .pointer (some ⟨b0, 0, none⟩) := (RY.ev_tmp a 2).trans ((hk 2 (by kernel_rfl)).trans rfl)
          exact ⟨.pointer (some ⟨b0, 0, none⟩), by simp [execOp, go_sem, e2], rfl⟩
        | 10, ho =>
          injection ho with ho; subst ho
          have e31 : a.tmps[31]?.getD undef = _ := (RY.ev_tmp a 31).trans (hd 9 _ 31 rfl rfl ⟨⟨9, .data⟩, by simp, rfl, rfl⟩)
          exact ⟨lv, by simp [execOp, go_sem, e31, z2], rfl⟩
        | 11, ho =>
          injection ho with ho; subst ho
          have e5 : a.tmps[5]?.getD undef = .int .i64 (k : Int) := (RY.ev_tmp a 5).trans ((hk 5 (by kernel_rfl)).trans rfl)
          exact ⟨.int .i64 (k : Int), by simp [execOp, go_sem, e5], rfl⟩
        | 12, ho =>
          injection ho with ho; subst ho
          have f32 : a.eval (.tmp 32) = lv := hd 10 _ 32 rfl rfl ⟨⟨10, .data⟩, by simp, rfl, rfl⟩
          have f33 : a.eval (.tmp 33) = .int .i64 (k : Int) := hd 11 _ 33 rfl rfl ⟨⟨11, .data⟩, by simp, rfl, rfl⟩
          exact ⟨s2, by simp [execOp, f32, f33, run_sliceAt_slice (P := Tryz.prog) (w := Y) 22 lv (some (.int .i64 (k : Int))) none none Tryz.under_blocksE, HS2.out], rfl⟩
        | 13, ho => exact absurd rfl n13
        | 14, ho =>
          injection ho with ho; subst ho
          have e2 : a.tmps[2]?.getD undef = .pointer (some ⟨b0, 0, none⟩) := (RY.ev_tmp a 2).trans ((hk 2 (by kernel_rfl)).trans rfl)
          exact ⟨.pointer (some ⟨b0, 0, none⟩), by simp [execOp, go_sem, e2], rfl⟩
        | 15, ho => exact absurd rfl n15
        | n + 16, ho => simp at ho
      · intro a Y
        simp [execOp, go_sem]
      · intro a Y hd
        have e28 : a.tmps[28]?.getD undef = _ := (RY.ev_tmp a 28).trans (hd 6 _ 28 rfl rfl ⟨⟨6, .data⟩, by simp, rfl, rfl⟩)
        simp [execOp, go_sem, e28]
      · intro a Y hY hd ho
        have e26 := hd 4 _ 26 rfl rfl ⟨⟨4, .data⟩, by simp, rfl, rfl⟩
        obtain ⟨u, W', hr, hA⟩ := app_lst 22 22 37 i0 _ 3 56 Tryz.under_blocks hi0 hz0 hz1 hz2 rfl (by decide) HL1.out hY ho (by unfold maxLen; omega) (by omega)
        rw [Nat.zero_add, List.nil_append] at hA
        exact ⟨u, W', uexec_append (.tmp 22) (.tmp 26) 22 rfl rfl e26 hr, hA⟩
      · intro a Y hY ho q eq hq
        obtain ⟨u, W', hr, h2, h3, _, h5⟩ := run_append_own_at (P := Tryz.prog) Y X.heap.size 22 22 37 i0 _ 3 56 Tryz.under_blocks hi0 hz0 hz1 hz2 rfl (by decide) _ k _ ho ⟨q, 0, none⟩ 1 1 [.string x.kind, .string x.name, .slice xa x.lines.length xc] rfl (fun j y hy => by rw [Addr.add_mid, Nat.zero_add]; simp only [World.cell?, hq]; simpa using hy) (by simp [Value.oneCell']) (by unfold maxLen; omega) (by omega) hY.size
        exact ⟨u, W', uexec_append (.tmp 27) (.tmp 29) 22 rfl rfl eq hr, h2, h3, h5⟩
      · intro a Y hY hd ho
        have e34 := hd 12 _ 34 rfl rfl ⟨⟨12, .data⟩, by simp, rfl, rfl⟩
        obtain ⟨u, W', hr, hA⟩ := app_lst 22 22 37 i0 _ 3 56 Tryz.under_blocks hi0 hz0 hz1 hz2 rfl (by decide) HL2.out hY ho (by unfold maxLen; omega) (by omega)
        have en : k + 1 + (n - k) = n + 1 := by omega
        rw [en] at hA
        exact ⟨u, W', uexec_append (.tmp 30) (.tmp 34) 22 rfl rfl e34 hr, hA⟩
      · intro a Y hY h14 ho
        obtain ⟨g, cap, eu, _, _⟩ := ho.form (by omega)
        have t35 := (RY.ev_tmp a 35).trans eu
        have t36 : a.tmps[36]?.getD undef = _ := (RY.ev_tmp a 36).trans h14
        have B1 := HO2.out.box.later hY
        have z2 := B1.get 0 _ rfl
        have zf := B1.own.frozen 0
        refine ⟨Y.setCell ⟨b0, 0, none⟩ (.slice (some ⟨g, 0, none⟩) (n + 1) cap), by simp [execOp, go_sem, t35, t36, z2, zf], ?_⟩
        rw [eu] at ho ⊢
        exact QtK.mk' HBZ.out (HO2.out.later hY) (by have := HO2.out.res.own.lt; omega) ho (HR2.out.later hY) HG2.out
      · rintro vals W hK
        simp only [RY.putAll, Act.put, List.setIfInBounds_toArray, List.set_cons_zero, List.set_cons_succ]
        generalize vals 22 = s22
        generalize vals 23 = s23
        generalize vals 24 = s24
        generalize vals 25 = s25
        generalize vals 26 = s26
        generalize vals 27 = s27
        generalize vals 28 = s28
        generalize vals 29 = s29
        generalize vals 30 = s30
        generalize vals 31 = s31
        generalize vals 32 = s32
        generalize vals 33 = s33
        generalize vals 34 = s34
        generalize vals 35 = s35 at hK ⊢
        generalize vals 36 = s36
        obtain ⟨g, cap, eu⟩ := hK.form
        subst eu
        have HK := uh hK
        clear hK HO2 HS1 HS2 HL1 HL2 HR2
        go_upto_region 5 with fail
        have hxa := HK.out.box.at_
        have hxl := HK.out.box.own.lt
        have hol := HK.out.res.own.lt
        have hth : W.there (b0 + 2) 0 (#[.slice (some ⟨g, 0, none⟩) (n + 1) cap] : Array Value).size := uthere HK.out.res.own _ _ (by simp)
        obtain ⟨we, hwe⟩ : ∃ we, we = W.setCells (b0 + 2) 0 [.slice (some ⟨g, 0, none⟩) (n + 1) cap] := ⟨_, rfl⟩
        have hrt : we.rangeAt (b0 + 2) 0 [.slice (some ⟨g, 0, none⟩) (n + 1) cap] := by rw [hwe]; exact World.rangeAt_setCells_same _ _ _ _ hth
        have HM2 : Hid (Marks (fun b => b = b0 + 2) W we) := by show Marks _ _ _; rw [hwe]; exact mks_scs (S := fun b => b = b0 + 2) rfl _ _ _
        go_wp2_with (first | (refine wpList_load_mid rfl 24 _ rfl b0 0 rfl [.slice (some ⟨g, 0, none⟩) (n + 1) cap] _ hxa Tryz.underlying24 rfl (by kernel_rfl) ?_) | (refine wpList_store_mid rfl 24 _ _ rfl (b0 + 2) 0 #[.slice (some ⟨g, 0, none⟩) (n + 1) cap] rfl rfl hth (by kernel_rfl) (by simp [Value.oneCell']) ?_))
        first | rw [← hwe] | (simp only [List.toList_toArray]; rw [← hwe])
        try simp only [Act.put]
        refine bodyPost_ret (v := .agg #[.slice (some ⟨g, 0, none⟩) (n + 1) cap]) (by simp [results, Tryz.results12, asAddr, run_loadVar_mid (P := Tryz.prog) _ _ _ 24 [.slice (some ⟨g, 0, none⟩) (n + 1) cap] _ hrt Tryz.underlying24 rfl (by kernel_rfl)]) rfl ?_
        exact HK.out.ans HBZ.out HM2.out HG2.out HLN.out (fun b hb => by rcases HIN.out b hb with h | h; exact Or.inl (HGF.out b h); exact Or.inr (by simpa using h))
    · have HCL : Hid (∀ X, Below wr.heap.size wr X → Calls Tryz.prog 23 #[.agg #[.string y.kind, .string y.name, .slice ya y.lines.length yc], .agg #[.string x.kind, .string x.name, .slice xa x.lines.length xc]] X fun e w' => e = .returned (.bool true) ∧ Below X.heap.size X w') := fun X hX => by
        have := l39AheadS y x (.slice ya y.lines.length yc) (.slice xa x.lines.length xc) X
        rwa [hls] at this
      have HIN : Hid (∀ j, j < k + 1 → Pl.ahead (s.getD j Pl.blNo) x = true) := fun j hj => by
        by_cases e : j = k
        · rw [e, ← HY.out]; exact hls
        · exact HI.out j (by omega)
      go_upto_region 2 with fail
      refine RY.region_pastG wr (Below.refl _ _) (VQb x y (some ⟨p, o, none⟩) xa ya vc xc yc p o n k b0) (VQb_mono _ _ _ _ _ _ _ _ _ _ _ _ _) (by kernel_rfl) (by kernel_rfl) (by kernel_rfl) (by kernel_rfl) ?_ ?_
      · intro i o' ho a X hX hk hd
        have z2 := (HO.out.box.later hX).get 0 _ rfl
        have rx := (HO.out.arg.later hX).at_
        have ry := rA_later HGY.out HPZ.out hX
        match i, ho with
        | 0, ho =>
          injection ho with ho; subst ho
          have e5 : a.tmps[5]?.getD undef = .int .i64 (k : Int) := (RY.ev_tmp a 5).trans ((hk 5 (by kernel_rfl)).trans rfl)
          exact Or.inl ⟨RY.wanted_no rfl, Or.inl ⟨.int .i64 (k : Int), X, by simp [execOp, go_sem, e5], Below.refl _ _, rfl⟩⟩
        | 1, ho =>
          injection ho with ho; subst ho
          have e2 : a.tmps[2]?.getD undef = .pointer (some ⟨b0, 0, none⟩) := (RY.ev_tmp a 2).trans ((hk 2 (by kernel_rfl)).trans rfl)
          exact Or.inl ⟨RY.wanted_no rfl, Or.inl ⟨.pointer (some ⟨b0, 0, none⟩), X, by simp [execOp, go_sem, e2], Below.refl _ _, rfl⟩⟩
        | 2, ho =>
          injection ho with ho; subst ho
          have e7 : a.tmps[7]?.getD undef = _ := (RY.ev_tmp a 7).trans (hd 1 _ 7 rfl rfl ⟨⟨1, .data⟩, by simp, rfl, rfl⟩)
          exact Or.inl ⟨RY.wanted_no rfl, Or.inl ⟨.slice (some ⟨p, o, none⟩) n vc, X, by simp [execOp, go_sem, e7, z2], Below.refl _ _, rfl⟩⟩
        | 3, ho =>
          injection ho with ho; subst ho
          have e8 : a.tmps[8]?.getD undef = _ := (RY.ev_tmp a 8).trans (hd 2 _ 8 rfl rfl ⟨⟨2, .data⟩, by simp, rfl, rfl⟩)
          exact Or.inl ⟨RY.wanted_no rfl, Or.inl ⟨.int .i64 (n : Int), X, by simp [go_sem, e8], Below.refl _ _, rfl⟩⟩
        | 4, ho =>
          injection ho with ho; subst ho
          have e6 : a.tmps[6]?.getD undef = _ := (RY.ev_tmp a 6).trans (hd 0 _ 6 rfl rfl ⟨⟨0, .data⟩, by simp, rfl, rfl⟩)
          have e9 : a.tmps[9]?.getD undef = _ := (RY.ev_tmp a 9).trans (hd 3 _ 9 rfl rfl ⟨⟨3, .data⟩, by simp, rfl, rfl⟩)
          exact Or.inl ⟨RY.wanted_no rfl, Or.inl ⟨.bool true, X, by simp [execOp, go_sem, e6, e9, hgo], Below.refl _ _, rfl⟩⟩
        | 5, ho =>
          injection ho with ho; subst ho
          have e10 : a.tmps[10]?.getD undef = _ := (RY.ev_tmp a 10).trans (hd 4 _ 10 rfl rfl ⟨⟨4, .data⟩, by simp, rfl, rfl⟩)
          exact Or.inl ⟨RY.wanted_no rfl, Or.inl ⟨.bool true, X, by simp [execOp, go_sem, e10], Below.refl _ _, rfl⟩⟩
        | 6, ho =>
          injection ho with ho; subst ho
          have gd := hd 5 _ 11 rfl rfl ⟨⟨5, .guard⟩, by simp, rfl, rfl⟩
          have e2 : a.tmps[2]?.getD undef = .pointer (some ⟨b0, 0, none⟩) := (RY.ev_tmp a 2).trans ((hk 2 (by kernel_rfl)).trans rfl)
          exact Or.inl ⟨(RY.wanted_at rfl rfl rfl gd).trans rfl, Or.inl ⟨.pointer (some ⟨b0, 0, none⟩), X, by simp [execOp, go_sem, e2], Below.refl _ _, rfl⟩⟩
        | 7, ho =>
          injection ho with ho; subst ho
          have gd := hd 5 _ 11 rfl rfl ⟨⟨5, .guard⟩, by simp, rfl, rfl⟩
          have e12 : a.tmps[12]?.getD undef = _ := (RY.ev_tmp a 12).trans (hd 6 _ 12 rfl rfl ⟨⟨6, .data⟩, by simp, rfl, rfl⟩)
          exact Or.inl ⟨(RY.wanted_at rfl rfl rfl gd).trans rfl, Or.inl ⟨.slice (some ⟨p, o, none⟩) n vc, X, by simp [execOp, go_sem, e12, z2], Below.refl _ _, rfl⟩⟩
        | 8, ho =>
          injection ho with ho; subst ho
          have gd := hd 5 _ 11 rfl rfl ⟨⟨5, .guard⟩, by simp, rfl, rfl⟩
          have e5 : a.tmps[5]?.getD undef = .int .i64 (k : Int) := (RY.ev_tmp a 5).trans ((hk 5 (by kernel_rfl)).trans rfl)
          exact Or.inl ⟨(RY.wanted_at rfl rfl rfl gd).trans rfl, Or.inl ⟨.int .i64 (k : Int), X, by simp [execOp, go_sem, e5], Below.refl _ _, rfl⟩⟩
        | 9, ho =>
          injection ho with ho; subst ho
          have gd := hd 5 _ 11 rfl rfl ⟨⟨5, .guard⟩, by simp, rfl, rfl⟩
          have e13 : a.tmps[13]?.getD undef = _ := (RY.ev_tmp a 13).trans (hd 7 _ 13 rfl rfl ⟨⟨7, .data⟩, by simp, rfl, rfl⟩)
          have e14 : a.tmps[14]?.getD undef = _ := (RY.ev_tmp a 14).trans (hd 8 _ 14 rfl rfl ⟨⟨8, .data⟩, by simp, rfl, rfl⟩)
          exact Or.inl ⟨(RY.wanted_at rfl rfl rfl gd).trans rfl, Or.inl ⟨.pointer (some ⟨p, o + k * 3, none⟩), X, by simp [execOp, go_sem, e13, e14, hk0, hkn], Below.refl _ _, rfl⟩⟩
        | 10, ho =>
          injection ho with ho; subst ho
          have gd := hd 5 _ 11 rfl rfl ⟨⟨5, .guard⟩, by simp, rfl, rfl⟩
          have e15 : a.tmps[15]?.getD undef = _ := (RY.ev_tmp a 15).trans (hd 9 _ 15 rfl rfl ⟨⟨9, .data⟩, by simp, rfl, rfl⟩)
          exact Or.inl ⟨(RY.wanted_at rfl rfl rfl gd).trans rfl, Or.inl ⟨.agg #[.string y.kind, .string y.name, .slice ya y.lines.length yc], X, exec_load_mid 37 _ rfl p (o + k * 3) ((RY.ev_tmp a 15).symm.trans e15) [.string y.kind, .string y.name, .slice ya y.lines.length yc] _ ry Tryz.underlying37 rfl (by kernel_rfl), Below.refl _ _, rfl⟩⟩
        | 11, ho =>
          injection ho with ho; subst ho
          have gd := hd 5 _ 11 rfl rfl ⟨⟨5, .guard⟩, by simp, rfl, rfl⟩
          have e3 : a.tmps[3]?.getD undef = .pointer (some ⟨b0 + 1, 0, none⟩) := (RY.ev_tmp a 3).trans ((hk 3 (by kernel_rfl)).trans rfl)
          exact Or.inl ⟨(RY.wanted_at rfl rfl rfl gd).trans rfl, Or.inl ⟨.agg #[.string x.kind, .string x.name, .slice xa x.lines.length xc], X, exec_load_mid 37 _ rfl (b0 + 1) 0 ((RY.ev_tmp a 3).symm.trans e3) [.string x.kind, .string x.name, .slice xa x.lines.length xc] _ rx Tryz.underlying37 rfl (by kernel_rfl), Below.refl _ _, rfl⟩⟩
        | 12, ho =>
          injection ho with ho; subst ho
          have gd := hd 5 _ 11 rfl rfl ⟨⟨5, .guard⟩, by simp, rfl, rfl⟩
          have e16 : a.tmps[16]?.getD undef = _ := (RY.ev_tmp a 16).trans (hd 10 _ 16 rfl rfl ⟨⟨10, .data⟩, by simp, rfl, rfl⟩)
          have e17 : a.tmps[17]?.getD undef = _ := (RY.ev_tmp a 17).trans (hd 11 _ 17 rfl rfl ⟨⟨11, .data⟩, by simp, rfl, rfl⟩)
          refine Or.inl ⟨(RY.wanted_at rfl rfl rfl gd).trans rfl, Or.inr ⟨23, #[.agg #[.string y.kind, .string y.name, .slice ya y.lines.length yc], .agg #[.string x.kind, .string x.name, .slice xa x.lines.length xc]], by simp [go_sem, e16, e17], (HCL.out X hX).mono ?_⟩⟩
          rintro e W' ⟨rfl, hb⟩
          exact ⟨_, rfl, hb, rfl⟩
        | 13, ho =>
          injection ho with ho; subst ho
          have e11 : a.tmps[11]?.getD undef = _ := (RY.ev_tmp a 11).trans (hd 5 _ 11 rfl rfl ⟨⟨5, .data⟩, by simp, rfl, rfl⟩)
          have e18 : a.tmps[18]?.getD undef = _ := (RY.ev_tmp a 18).trans (hd 12 _ 18 rfl rfl ⟨⟨12, .data⟩, by simp, rfl, rfl⟩)
          exact Or.inl ⟨RY.wanted_no rfl, Or.inl ⟨.bool true, X, by simp [execOp, go_sem, e11, e18], Below.refl _ _, rfl⟩⟩
        | n + 14, ho => simp at ho
      intro X vs hX hvs
      have q19 : vs 19 = _ := hvs 13 _ 19 rfl rfl
      simp only [RY.putAll, Act.put, List.setIfInBounds_toArray, List.set_cons_zero, List.set_cons_succ]
      rw [q19]
      generalize vs 6 = s6
      generalize vs 7 = s7
      generalize vs 8 = s8
      generalize vs 9 = s9
      generalize vs 10 = s10
      generalize vs 11 = s11
      generalize vs 12 = s12
      generalize vs 13 = s13
      generalize vs 14 = s14
      generalize vs 15 = s15
      generalize vs 16 = s16
      generalize vs 17 = s17
      generalize vs 18 = s18
      clear hvs q19
      have HO2 := uh (HO.out.later hX)
      clear hX HO
      go_wp2
      go_roundw
      case rel => exact ⟨k + 1, by omega, by go_num, HO2.out, HIN.out⟩
      case measure => simp [intOf]; omega

end Go.Proofs.YtdllbcafbfkngaaGreatDoor
