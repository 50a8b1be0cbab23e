/-
  Sheets that are valid: the specification.
-/
import Derived.Test.YtojcopamegmeeaaELb
namespace Go.Proofs.Ytojcopamegmeeaa
open Go.RowKit Go.Deep

set_option maxHeartbeats 4000000 in
theorem l39AheadS (x y : Pl.Bl) (v1 v2 : Value) (w : World) :
    Calls Try.prog 31 #[.agg #[.string x.kind, .string x.name, v1], .agg #[.string y.kind, .string y.name, v2]] w fun e w' => e = .returned (.bool (Pl.ahead x y)) ∧ Below w.heap.size w w' := by
  obtain ⟨wa, hwa⟩ : ∃ wa, wa = (w.alloc (.cells #[.string x.kind, .string x.name, v1] 42)).alloc (.cells #[.string y.kind, .string y.name, v2] 42) := ⟨_, rfl⟩
  have HB0 : Hid (Below w.heap.size w wa) := by show Below _ _ _; rw [hwa]; exact blw_alloc (blw_alloc (Below.refl _ _) _) _
  have HX : LBox wa w.heap.size [.string x.kind, .string x.name, v1] := by rw [hwa]; exact (LBox.new w #[.string x.kind, .string x.name, v1] _ _ rfl).past _
  have HY : LBox wa (w.heap.size + 1) [.string y.kind, .string y.name, v2] := by rw [hwa]; exact LBox.new (w.alloc (.cells #[.string x.kind, .string x.name, v1] 42)) #[.string y.kind, .string y.name, v2] _ _ (by simp)
  have HR : Hid (Pl.ahead x y = (Op.bytesLess x.kind.toList y.kind.toList || ((x.kind.toList == y.kind.toList) && Op.bytesLess x.name.toList y.name.toList))) := rfl
  go_enter Try.func31, Try.ntmps31
  go_upto_region 1 with fail
  rw [← hwa]
  clear hwa
  have x0 := HX.get 0 _ rfl
  have x1 := HX.get 1 _ rfl
  have xl := HX.lt
  have y0 := HY.get 0 _ rfl
  have y1 := HY.get 1 _ rfl
  have yl := HY.lt
  clear HX HY
  cases h1 : Op.bytesLess x.kind.toList y.kind.toList
  · cases h2 : (x.kind.toList == y.kind.toList)
    · go_wp2
      go_ret
      exact ⟨Pl.ret_bool (by rw [HR.out, h1, h2]; rfl), HB0.out⟩
    · go_wp2
      go_ret
      exact ⟨Pl.ret_bool (by rw [HR.out, h1, h2]; simp), HB0.out⟩
  · go_wp2
    go_ret
    exact ⟨Pl.ret_bool (by rw [HR.out, h1]; rfl), HB0.out⟩
def VSa (x : Pl.Bl) (m : Nat) (b1 : Nat) : Nat → Value → World → Prop
  | 0, u, _ => u = .pointer (some ⟨b1, 0, none⟩)
  | 1, u, _ => u = .string x.kind
  | 2, u, _ => ∃ a c, u = .slice a m c
  | 3, u, _ => u = .int .i64 (m : Int)
  | 4, u, _ => u = .bool true
  | 5, u, _ => u = .bool true
  | 6, u, _ => u = undef
  | 7, u, _ => u = undef
  | 8, u, _ => u = undef
  | 9, u, _ => u = undef
  | 10, u, _ => u = .bool true
  | 11, u, _ => u = .bool true
  | 12, u, _ => u = undef
  | 13, u, _ => u = undef
  | 14, u, _ => u = undef
  | 15, u, _ => u = undef
  | 16, u, _ => u = undef
  | 17, u, _ => u = undef
  | 18, u, _ => u = .bool true
  | 19, u, _ => u = .bool true
  | 20, u, _ => u = undef
  | 21, u, _ => u = undef
  | 22, u, _ => u = undef
  | 23, u, _ => u = undef
  | 24, u, _ => u = undef
  | 25, u, _ => u = undef
  | 26, u, _ => u = undef
  | 27, u, _ => u = undef
  | 28, u, _ => u = undef
  | 29, u, _ => u = undef
  | 30, u, _ => u = undef
  | 31, u, _ => u = undef
  | 32, u, _ => u = undef
  | 33, u, _ => u = .bool true
  | _, _, _ => True
theorem VSa_mono (x : Pl.Bl) (m : Nat) (b1 : Nat) : ∀ jj u W W', Below W.heap.size W W' → VSa x m b1 jj u W → VSa x m b1 jj u W' := by
  intro jj u W W' hb h
  match jj with
  | 0 => exact h
  | 1 => exact h
  | 2 =>
    exact h
  | 3 => exact h
  | 4 => exact h
  | 5 => exact h
  | 6 => exact h
  | 7 => exact h
  | 8 => exact h
  | 9 => exact h
  | 10 => exact h
  | 11 => exact h
  | 12 => exact h
  | 13 => exact h
  | 14 => exact h
  | 15 => exact h
  | 16 => exact h
  | 17 => exact h
  | 18 => exact h
  | 19 => exact h
  | 20 => exact h
  | 21 => exact h
  | 22 => exact h
  | 23 => exact h
  | 24 => exact h
  | 25 => exact h
  | 26 => exact h
  | 27 => exact h
  | 28 => exact h
  | 29 => exact h
  | 30 => exact h
  | 31 => exact h
  | 32 => exact h
  | 33 => exact h
  | n + 34 => exact trivial
def VSb (x : Pl.Bl) (m : Nat) (b1 : Nat) : Nat → Value → World → Prop
  | 0, u, _ => u = .pointer (some ⟨b1, 0, none⟩)
  | 1, u, _ => u = .string x.kind
  | 2, u, _ => ∃ a c, u = .slice a m c
  | 3, u, _ => u = .int .i64 (m : Int)
  | 4, u, _ => u = .bool false
  | 5, u, _ => u = .bool false
  | 6, u, _ => u = .pointer (some ⟨b1, 1, none⟩)
  | 7, u, _ => u = .string x.name
  | 8, u, _ => u = .bool false
  | 9, u, _ => u = .bool true
  | 10, u, _ => u = .bool true
  | 11, u, _ => u = .bool true
  | 12, u, _ => u = undef
  | 13, u, _ => u = undef
  | 14, u, _ => u = undef
  | 15, u, _ => u = undef
  | 16, u, _ => u = undef
  | 17, u, _ => u = undef
  | 18, u, _ => u = .bool true
  | 19, u, _ => u = .bool true
  | 20, u, _ => u = undef
  | 21, u, _ => u = undef
  | 22, u, _ => u = undef
  | 23, u, _ => u = undef
  | 24, u, _ => u = undef
  | 25, u, _ => u = undef
  | 26, u, _ => u = undef
  | 27, u, _ => u = undef
  | 28, u, _ => u = undef
  | 29, u, _ => u = undef
  | 30, u, _ => u = undef
  | 31, u, _ => u = undef
  | 32, u, _ => u = undef
  | 33, u, _ => u = .bool true
  | _, _, _ => True
theorem VSb_mono (x : Pl.Bl) (m : Nat) (b1 : Nat) : ∀ jj u W W', Below W.heap.size W W' → VSb x m b1 jj u W → VSb x m b1 jj u W' := by
  intro jj u W W' hb h
  match jj with
  | 0 => exact h
  | 1 => exact h
  | 2 =>
    exact h
  | 3 => exact h
  | 4 => exact h
  | 5 => exact h
  | 6 => exact h
  | 7 => exact h
  | 8 => exact h
  | 9 => exact h
  | 10 => exact h
  | 11 => exact h
  | 12 => exact h
  | 13 => exact h
  | 14 => exact h
  | 15 => exact h
  | 16 => exact h
  | 17 => exact h
  | 18 => exact h
  | 19 => exact h
  | 20 => exact h
  | 21 => exact h
  | 22 => exact h
  | 23 => exact h
  | 24 => exact h
  | 25 => exact h
  | 26 => exact h
  | 27 => exact h
  | 28 => exact h
  | 29 => exact h
  | 30 => exact h
  | 31 => exact h
  | 32 => exact h
  | 33 => exact h
  | n + 34 => exact trivial
def VSc (x : Pl.Bl) (ax : Option Addr) (cx : Nat) (m : Nat) (b1 : Nat) : Nat → Value → World → Prop
  | 0, u, _ => u = .pointer (some ⟨b1, 0, none⟩)
  | 1, u, _ => u = .string x.kind
  | 2, u, _ => ∃ a c, u = .slice a m c
  | 3, u, _ => u = .int .i64 (m : Int)
  | 4, u, _ => u = .bool false
  | 5, u, _ => u = .bool false
  | 6, u, _ => u = .pointer (some ⟨b1, 1, none⟩)
  | 7, u, _ => u = .string x.name
  | 8, u, _ => u = .bool true
  | 9, u, _ => u = .bool false
  | 10, u, _ => u = .bool false
  | 11, u, _ => u = .bool false
  | 12, u, _ => u = .pointer (some ⟨b1, 0, none⟩)
  | 13, u, _ => u = .string x.kind
  | 14, u, _ => u = .pointer (some ⟨b1, 2, none⟩)
  | 15, u, _ => u = .slice ax x.lines.length cx
  | 16, u, _ => u = .bool false
  | 17, u, _ => u = .bool true
  | 18, u, _ => u = .bool true
  | 19, u, _ => u = .bool true
  | 20, u, _ => u = undef
  | 21, u, _ => u = undef
  | 22, u, _ => u = undef
  | 23, u, _ => u = undef
  | 24, u, _ => u = undef
  | 25, u, _ => u = undef
  | 26, u, _ => u = undef
  | 27, u, _ => u = undef
  | 28, u, _ => u = undef
  | 29, u, _ => u = undef
  | 30, u, _ => u = undef
  | 31, u, _ => u = undef
  | 32, u, _ => u = undef
  | 33, u, _ => u = .bool true
  | _, _, _ => True
theorem VSc_mono (x : Pl.Bl) (ax : Option Addr) (cx : Nat) (m : Nat) (b1 : Nat) : ∀ jj u W W', Below W.heap.size W W' → VSc x ax cx m b1 jj u W → VSc x ax cx m b1 jj u W' := by
  intro jj u W W' hb h
  match jj with
  | 0 => exact h
  | 1 => exact h
  | 2 =>
    exact h
  | 3 => exact h
  | 4 => exact h
  | 5 => exact h
  | 6 => exact h
  | 7 => exact h
  | 8 => exact h
  | 9 => exact h
  | 10 => exact h
  | 11 => exact h
  | 12 => exact h
  | 13 => exact h
  | 14 => exact h
  | 15 => exact h
  | 16 => exact h
  | 17 => exact h
  | 18 => exact h
  | 19 => exact h
  | 20 => exact h
  | 21 => exact h
  | 22 => exact h
  | 23 => exact h
  | 24 => exact h
  | 25 => exact h
  | 26 => exact h
  | 27 => exact h
  | 28 => exact h
  | 29 => exact h
  | 30 => exact h
  | 31 => exact h
  | 32 => exact h
  | 33 => exact h
  | n + 34 => exact trivial
def VSd (x : Pl.Bl) (ax : Option Addr) (cx : Nat) (k : Nat) (m : Nat) (b1 : Nat) : Nat → Value → World → Prop
  | 0, u, _ => u = .pointer (some ⟨b1, 0, none⟩)
  | 1, u, _ => u = .string x.kind
  | 2, u, _ => ∃ a c, u = .slice a m c
  | 3, u, _ => u = .int .i64 (m : Int)
  | 4, u, _ => u = .bool false
  | 5, u, _ => u = .bool false
  | 6, u, _ => u = .pointer (some ⟨b1, 1, none⟩)
  | 7, u, _ => u = .string x.name
  | 8, u, _ => u = .bool true
  | 9, u, _ => u = .bool false
  | 10, u, _ => u = .bool false
  | 11, u, _ => u = .bool false
  | 12, u, _ => u = .pointer (some ⟨b1, 0, none⟩)
  | 13, u, _ => u = .string x.kind
  | 14, u, _ => u = .pointer (some ⟨b1, 2, none⟩)
  | 15, u, _ => u = .slice ax x.lines.length cx
  | 16, u, _ => u = .bool true
  | 17, u, _ => u = .bool false
  | 18, u, _ => u = .bool false
  | 19, u, _ => u = .bool false
  | 20, u, _ => u = .int .i64 (k : Int)
  | 21, u, _ => u = .bool false
  | 22, u, _ => u = .bool false
  | 23, u, _ => u = undef
  | 24, u, _ => u = undef
  | 25, u, _ => u = undef
  | 26, u, _ => u = undef
  | 27, u, _ => u = undef
  | 28, u, _ => u = undef
  | 29, u, _ => u = undef
  | 30, u, _ => u = undef
  | 31, u, _ => u = undef
  | 32, u, _ => u = .bool false
  | 33, u, _ => u = .bool false
  | _, _, _ => True
theorem VSd_mono (x : Pl.Bl) (ax : Option Addr) (cx : Nat) (k : Nat) (m : Nat) (b1 : Nat) : ∀ jj u W W', Below W.heap.size W W' → VSd x ax cx k m b1 jj u W → VSd x ax cx k m b1 jj u W' := by
  intro jj u W W' hb h
  match jj with
  | 0 => exact h
  | 1 => exact h
  | 2 =>
    exact h
  | 3 => exact h
  | 4 => exact h
  | 5 => exact h
  | 6 => exact h
  | 7 => exact h
  | 8 => exact h
  | 9 => exact h
  | 10 => exact h
  | 11 => exact h
  | 12 => exact h
  | 13 => exact h
  | 14 => exact h
  | 15 => exact h
  | 16 => exact h
  | 17 => exact h
  | 18 => exact h
  | 19 => exact h
  | 20 => exact h
  | 21 => exact h
  | 22 => exact h
  | 23 => exact h
  | 24 => exact h
  | 25 => exact h
  | 26 => exact h
  | 27 => exact h
  | 28 => exact h
  | 29 => exact h
  | 30 => exact h
  | 31 => exact h
  | 32 => exact h
  | 33 => exact h
  | n + 34 => exact trivial
def VSe (x : Pl.Bl) (y : Pl.Bl) (ax : Option Addr) (ay : Option Addr) (cx : Nat) (cy : Nat) (p : Nat) (o : Nat) (n : Nat) (vc : Nat) (k : Nat) (m : Nat) (b0 : Nat) (b1 : Nat) (b : Bool) : Nat → Value → World → Prop
  | 0, u, _ => u = .pointer (some ⟨b1, 0, none⟩)
  | 1, u, _ => u = .string x.kind
  | 2, u, _ => ∃ a c, u = .slice a m c
  | 3, u, _ => u = .int .i64 (m : Int)
  | 4, u, _ => u = .bool false
  | 5, u, _ => u = .bool false
  | 6, u, _ => u = .pointer (some ⟨b1, 1, none⟩)
  | 7, u, _ => u = .string x.name
  | 8, u, _ => u = .bool true
  | 9, u, _ => u = .bool false
  | 10, u, _ => u = .bool false
  | 11, u, _ => u = .bool false
  | 12, u, _ => u = .pointer (some ⟨b1, 0, none⟩)
  | 13, u, _ => u = .string x.kind
  | 14, u, _ => u = .pointer (some ⟨b1, 2, none⟩)
  | 15, u, _ => u = .slice ax x.lines.length cx
  | 16, u, _ => u = .bool true
  | 17, u, _ => u = .bool false
  | 18, u, _ => u = .bool false
  | 19, u, _ => u = .bool false
  | 20, u, _ => u = .int .i64 (k : Int)
  | 21, u, _ => u = .bool true
  | 22, u, _ => u = .bool true
  | 23, u, _ => u = .pointer (some ⟨b0, 0, none⟩)
  | 24, u, _ => u = .slice (some ⟨p, o, none⟩) n vc
  | 25, u, _ => u = .int .i64 (k : Int)
  | 26, u, _ => u = .int .i64 ((k : Int) - 1)
  | 27, u, _ => u = .pointer (some ⟨p, o + (k - 1) * 3, none⟩)
  | 28, u, _ => u = .agg #[.string y.kind, .string y.name, .slice ay y.lines.length cy]
  | 29, u, _ => u = .agg #[.string x.kind, .string x.name, .slice ax x.lines.length cx]
  | 30, u, _ => u = .bool b
  | 31, u, _ => u = .bool (!b)
  | 32, u, _ => u = .bool (!b)
  | 33, u, _ => u = .bool (!b)
  | _, _, _ => True
theorem VSe_mono (x : Pl.Bl) (y : Pl.Bl) (ax : Option Addr) (ay : Option Addr) (cx : Nat) (cy : Nat) (p : Nat) (o : Nat) (n : Nat) (vc : Nat) (k : Nat) (m : Nat) (b0 : Nat) (b1 : Nat) (b : Bool) : ∀ jj u W W', Below W.heap.size W W' → VSe x y ax ay cx cy p o n vc k m b0 b1 b jj u W → VSe x y ax ay cx cy p o n vc k m b0 b1 b jj u W' := by
  intro jj u W W' hb h
  match jj with
  | 0 => exact h
  | 1 => exact h
  | 2 =>
    exact h
  | 3 => exact h
  | 4 => exact h
  | 5 => exact h
  | 6 => exact h
  | 7 => exact h
  | 8 => exact h
  | 9 => exact h
  | 10 => exact h
  | 11 => exact h
  | 12 => exact h
  | 13 => exact h
  | 14 => exact h
  | 15 => exact h
  | 16 => exact h
  | 17 => exact h
  | 18 => exact h
  | 19 => exact h
  | 20 => exact h
  | 21 => exact h
  | 22 => exact h
  | 23 => exact h
  | 24 => exact h
  | 25 => exact h
  | 26 => exact h
  | 27 => exact h
  | 28 => exact h
  | 29 => exact h
  | 30 => exact h
  | 31 => exact h
  | 32 => exact h
  | 33 => exact h
  | n + 34 => exact trivial

/-- Texts of a sheet of a length that a machine can bear. -/
def okTx (s : List Pl.Bl) : Prop := ∀ b ∈ s, b.name.size ≤ maxLen ∧ ∀ x ∈ b.lines, ∀ t ∈ x.ws, t.size ≤ maxLen
set_option maxRecDepth 8000 in
set_option maxHeartbeats 16000000 in
theorem sheetValidS (s : List Pl.Bl) (v : Value) (w : World) (h : Raw w shBls [blsD s] [v]) (hz : okTx s) :
    Calls Try.prog 14 #[.agg #[v]] w fun e w' => e = .returned (.bool (Pl.validS s)) ∧ Below w.heap.size w w' := by
  have HL := uh h
  have HZ := uh hz
  obtain ⟨va, vc, ev⟩ := h.len0
  subst ev
  have HR : Hid (Pl.validS s = (decide (s.length ≤ 60) && (List.range s.length).all (Pl.blockOkAt s))) := rfl
  clear h hz
  obtain ⟨n, hn⟩ : ∃ n, n = s.length := ⟨_, rfl⟩
  have HN := uh hn
  rw [← hn] at HR
  have hnn : s.length = n := hn.symm
  clear hn
  rw [hnn]
  clear hnn
  obtain ⟨wa, hwa⟩ : ∃ wa, wa = w.alloc (.cells #[.slice va n vc] 30) := ⟨_, rfl⟩
  have HBA : Hid (Below w.heap.size w wa) := by show Below _ _ _; rw [hwa]; exact blw_alloc (Below.refl _ _) _
  have HB0 : Hid (LBox wa w.heap.size [.slice va n vc]) := by show LBox _ _ _; rw [hwa]; exact LBox.new w #[.slice va n vc] _ _ rfl
  go_enter Try.func14, Try.ntmps14
  go_upto_region 1 with fail
  rw [← hwa]
  clear hwa
  have x0 := HB0.out.get 0 _ rfl
  have xl := HB0.out.lt
  by_cases h60 : (60 : Int) < (n : Int)
  · have HX : Hid (Pl.validS s = false) := by show _ = _; rw [HR.out]; simp; intro h; omega
    go_wp2
    go_ret
    exact ⟨Pl.ret_bool HX.out.symm, HBA.out⟩
  have HV : Hid (Pl.validS s = (List.range n).all (Pl.blockOkAt s)) := by show _ = _; rw [HR.out]; simp; omega
  go_upto_region 3 with fail
  clear x0 xl HR
  obtain ⟨b0, hb0⟩ : ∃ b0, b0 = w.heap.size := ⟨_, rfl⟩
  rw [← hb0] at HB0 ⊢
  have HBZ := uh hb0
  clear hb0
  go_wp2
  go_loopw [3] (fun i wr => ∃ k : Nat, k ≤ n ∧ i = .int .i64 k ∧ Below w.heap.size w wr ∧ LBox wr b0 [.slice va n vc] ∧ (List.range k).all (Pl.blockOkAt s) = true) (fun i _ => n - (intOf i).toNat)
  case atStart => exact ⟨0, Nat.zero_le _, rfl, HBA.out, HB0.out, rfl⟩
  case round =>
    clear HB0
    obtain ⟨k, hk, rfl, hW, hB0, hI⟩ := hrel
    have HW := uh hW
    have HI := uh hI
    have HB1 := uh hB0
    have x0 := hB0.get 0 _ rfl
    have xl := hB0.lt
    clear hW hI hB0
    by_cases hlt : k < n
    rotate_left
    · obtain rfl : k = n := by omega
      go_wp2
      go_ret
      exact ⟨Pl.ret_bool (by rw [HV.out, HI.out]), HW.out⟩
    have hkL : k < s.length := by have := HN.out; omega
    rcases bls_open (HL.out.later HW.out) with ⟨e0, _⟩ | ⟨p, o, c, hv, hp, hml, hopen⟩
    · omega
    rw [← HN.out] at hv hml
    injection hv with g1 _ g3
    subst g1; subst g3
    unfold maxLen at hml
    obtain ⟨ax, cx, hgx, hrx⟩ := hopen k hkL
    have HNO := uh (fun h => (HV.out.trans (Pl.rall_false hlt h)))
    have HOK : Hid (Pl.blockOkAt s k = (!decide ((Pl.rulesOf (s.getD k Pl.blNo).kind).length = 0) && Pl.nameOk20 (s.getD k Pl.blNo).name && Pl.linesOk (s.getD k Pl.blNo).kind (s.getD k Pl.blNo).lines && (decide (k = 0) || Pl.ahead (s.getD (k - 1) Pl.blNo) (s.getD k Pl.blNo)))) := rfl
    obtain ⟨x, hx⟩ : ∃ x, x = s.getD k Pl.blNo := ⟨_, rfl⟩
    have hxz : x.name.size ≤ maxLen ∧ ∀ z ∈ x.lines, ∀ t ∈ z.ws, t.size ≤ maxLen := by
      have e : s.getD k Pl.blNo = s[k] := by simp [hkL]
      rw [hx, e]; exact HZ.out _ (List.getElem_mem hkL)
    rw [← hx] at hgx hrx HOK
    obtain ⟨wq, hwq⟩ : ∃ wq, wq = wr.alloc (.cells #[.string x.kind, .string x.name, .slice ax x.lines.length cx] 42) := ⟨_, rfl⟩
    obtain ⟨b1, hb1⟩ : ∃ b1, b1 = wr.heap.size := ⟨_, rfl⟩
    have hbq : Below wr.heap.size wr wq := by rw [hwq]; exact blw_alloc (Below.refl _ _) _
    have HBX : Hid (LBox wq b1 [.string x.kind, .string x.name, .slice ax x.lines.length cx]) := by show LBox _ _ _; rw [hwq, hb1]; exact LBox.new wr #[.string x.kind, .string x.name, .slice ax x.lines.length cx] _ _ rfl
    have HB0 := uh (HB1.out.later hbq)
    have HWQ := uh (blw_trans HW.out hbq)
    have HP := uh (Nat.lt_of_lt_of_le hp hbq.size)
    have HRX := uh (hrx.later hbq)
    have HOP : Hid (∀ k, k < s.length → ∃ a c', wq.rangeAt p (o + k * 3) [.string (s.getD k Pl.blNo).kind, .string (s.getD k Pl.blNo).name, .slice a (s.getD k Pl.blNo).lines.length c']) := fun k hk => by
      obtain ⟨a, c', h1, _⟩ := hopen k hk
      exact ⟨a, c', rA_later h1 hp hbq⟩
    have hk0 : (0 : Int) ≤ (k : Int) := by omega
    have hkn : (k : Int) < (n : Int) := by omega
    have hxl2 : wr.rangeAt p (o + k * 3) [.string x.kind, .string x.name, .slice ax x.lines.length cx] := hgx
    have HXZ := uh hxz
    clear hx hopen hxz
    go_upto_region 7 with (refine wpList_load_mid rfl 42 _ rfl p (o + k * 3) rfl [.string x.kind, .string x.name, .slice ax x.lines.length cx] _ hxl2 Try.underlying42 rfl (by kernel_rfl) ?_)
    rw [← hwq, ← hb1]
    clear hwq hb1 hbq hgx hrx hxl2 x0 xl HW HB1 hp hk0 hkn
    have HCS := uh (fun X => sheetRulesS x.kind X)
    have HCNa := uh (fun X => l38NameOkS x.name X HXZ.out.1)
    have HCLa := uh (fun (X : World) (hX : Below wq.heap.size wq X) => l39LinesOkS x.kind x.lines (.slice ax x.lines.length cx) X (HRX.out.later hX) HXZ.out.2)
    obtain ⟨m, hm⟩ : ∃ m, m = (Pl.rulesOf x.kind).length := ⟨_, rfl⟩
    have HM := uh hm
    rw [← hm] at HOK
    clear hm
    by_cases hm0 : m = 0
    · have HNF : Hid (Pl.validS s = false) := HNO.out (by rw [HOK.out, hm0]; rfl)
      obtain ⟨y, ay, cy, b⟩ : Pl.Bl × Option Addr × Nat × Bool := ⟨Pl.blNo, none, 0, false⟩
      refine RY.region_pastG wq (Below.refl _ _) (VSa x m b1) (VSa_mono _ _ _) (by kernel_rfl) (by kernel_rfl) (by kernel_rfl) (by kernel_rfl) ?_ ?_
      · intro i o' ho a X hX hk hd
        have z0 := (HBX.out.later hX).get 0 _ rfl
        have z1 := (HBX.out.later hX).get 1 _ rfl
        have z2 := (HBX.out.later hX).get 2 _ rfl
        have rx := (HBX.out.later hX).at_
        have zb := (HB0.out.later hX).get 0 _ rfl
        match i, ho with
        | 0, ho =>
          injection ho with ho; subst ho
          have e4 : a.tmps[4]?.getD undef = .pointer (some ⟨b1, 0, none⟩) := (RY.ev_tmp a 4).trans ((hk 4 (by kernel_rfl)).trans rfl)
          exact Or.inl ⟨RY.wanted_no rfl, Or.inl ⟨.pointer (some ⟨b1, 0, none⟩), X, by simp [execOp, go_sem, e4], Below.refl _ _, rfl⟩⟩
        | 1, ho =>
          injection ho with ho; subst ho
          have e21 : a.tmps[21]?.getD undef = _ := (RY.ev_tmp a 21).trans (hd 0 _ 21 rfl rfl ⟨⟨0, .data⟩, by simp, rfl, rfl⟩)
          exact Or.inl ⟨RY.wanted_no rfl, Or.inl ⟨.string x.kind, X, by simp [execOp, go_sem, e21, z0], Below.refl _ _, rfl⟩⟩
        | 2, ho =>
          injection ho with ho; subst ho
          have e22 : a.tmps[22]?.getD undef = _ := (RY.ev_tmp a 22).trans (hd 1 _ 22 rfl rfl ⟨⟨1, .data⟩, by simp, rfl, rfl⟩)
          refine Or.inl ⟨RY.wanted_no rfl, Or.inr ⟨28, #[.string x.kind], by simp [go_sem, e22], (HCS.out X).mono ?_⟩⟩
          rintro e W' ⟨v, F, rfl, hr, _, _, hb⟩
          obtain ⟨a1, c1, hv⟩ := hr.raw.len0
          exact ⟨_, rfl, hb, a1, c1, by rw [HM.out]; exact hv⟩
        | 3, ho =>
          injection ho with ho; subst ho
          obtain ⟨a1, c1, e230⟩ := hd 2 _ 23 rfl rfl ⟨⟨2, .data⟩, by simp, rfl, rfl⟩
          have e23 := (RY.ev_tmp a 23).trans e230
          exact Or.inl ⟨RY.wanted_no rfl, Or.inl ⟨.int .i64 (m : Int), X, by simp [go_sem, e23], Below.refl _ _, rfl⟩⟩
        | 4, ho =>
          injection ho with ho; subst ho
          have e24 : a.tmps[24]?.getD undef = _ := (RY.ev_tmp a 24).trans (hd 3 _ 24 rfl rfl ⟨⟨3, .data⟩, by simp, rfl, rfl⟩)
          exact Or.inl ⟨RY.wanted_no rfl, Or.inl ⟨.bool true, X, by simp [execOp, go_sem, e24, hm0], Below.refl _ _, rfl⟩⟩
        | 5, ho =>
          injection ho with ho; subst ho
          have e25 : a.tmps[25]?.getD undef = _ := (RY.ev_tmp a 25).trans (hd 4 _ 25 rfl rfl ⟨⟨4, .data⟩, by simp, rfl, rfl⟩)
          exact Or.inl ⟨RY.wanted_no rfl, Or.inl ⟨.bool true, X, by simp [execOp, go_sem, e25], Below.refl _ _, rfl⟩⟩
        | 6, ho =>
          injection ho with ho; subst ho
          have gd := hd 5 _ 26 rfl rfl ⟨⟨5, .guard⟩, by simp, rfl, rfl⟩
          exact Or.inr ⟨(RY.wanted_at rfl rfl rfl gd).trans rfl, rfl⟩
        | 7, ho =>
          injection ho with ho; subst ho
          have gd := hd 5 _ 26 rfl rfl ⟨⟨5, .guard⟩, by simp, rfl, rfl⟩
          exact Or.inr ⟨(RY.wanted_at rfl rfl rfl gd).trans rfl, rfl⟩
        | 8, ho =>
          injection ho with ho; subst ho
          have gd := hd 5 _ 26 rfl rfl ⟨⟨5, .guard⟩, by simp, rfl, rfl⟩
          exact Or.inr ⟨(RY.wanted_at rfl rfl rfl gd).trans rfl, rfl⟩
        | 9, ho =>
          injection ho with ho; subst ho
          have gd := hd 5 _ 26 rfl rfl ⟨⟨5, .guard⟩, by simp, rfl, rfl⟩
          exact Or.inr ⟨(RY.wanted_at rfl rfl rfl gd).trans rfl, rfl⟩
        | 10, ho =>
          injection ho with ho; subst ho
          have e26 : a.tmps[26]?.getD undef = _ := (RY.ev_tmp a 26).trans (hd 5 _ 26 rfl rfl ⟨⟨5, .data⟩, by simp, rfl, rfl⟩)
          have e30 : a.tmps[30]?.getD undef = _ := (RY.ev_tmp a 30).trans (hd 9 _ 30 rfl rfl ⟨⟨9, .data⟩, by simp, rfl, rfl⟩)
          exact Or.inl ⟨RY.wanted_no rfl, Or.inl ⟨.bool true, X, by simp [execOp, go_sem, e26, e30], Below.refl _ _, rfl⟩⟩
        | 11, ho =>
          injection ho with ho; subst ho
          have e31 : a.tmps[31]?.getD undef = _ := (RY.ev_tmp a 31).trans (hd 10 _ 31 rfl rfl ⟨⟨10, .data⟩, by simp, rfl, rfl⟩)
          exact Or.inl ⟨RY.wanted_no rfl, Or.inl ⟨.bool true, X, by simp [execOp, go_sem, e31], Below.refl _ _, rfl⟩⟩
        | 12, ho =>
          injection ho with ho; subst ho
          have gd := hd 11 _ 32 rfl rfl ⟨⟨11, .guard⟩, by simp, rfl, rfl⟩
          exact Or.inr ⟨(RY.wanted_at rfl rfl rfl gd).trans rfl, rfl⟩
        | 13, ho =>
          injection ho with ho; subst ho
          have gd := hd 11 _ 32 rfl rfl ⟨⟨11, .guard⟩, by simp, rfl, rfl⟩
          exact Or.inr ⟨(RY.wanted_at rfl rfl rfl gd).trans rfl, rfl⟩
        | 14, ho =>
          injection ho with ho; subst ho
          have gd := hd 11 _ 32 rfl rfl ⟨⟨11, .guard⟩, by simp, rfl, rfl⟩
          exact Or.inr ⟨(RY.wanted_at rfl rfl rfl gd).trans rfl, rfl⟩
        | 15, ho =>
          injection ho with ho; subst ho
          have gd := hd 11 _ 32 rfl rfl ⟨⟨11, .guard⟩, by simp, rfl, rfl⟩
          exact Or.inr ⟨(RY.wanted_at rfl rfl rfl gd).trans rfl, rfl⟩
        | 16, ho =>
          injection ho with ho; subst ho
          have gd := hd 11 _ 32 rfl rfl ⟨⟨11, .guard⟩, by simp, rfl, rfl⟩
          exact Or.inr ⟨(RY.wanted_at rfl rfl rfl gd).trans rfl, rfl⟩
        | 17, ho =>
          injection ho with ho; subst ho
          have gd := hd 11 _ 32 rfl rfl ⟨⟨11, .guard⟩, by simp, rfl, rfl⟩
          exact Or.inr ⟨(RY.wanted_at rfl rfl rfl gd).trans rfl, rfl⟩
        | 18, ho =>
          injection ho with ho; subst ho
          have e32 : a.tmps[32]?.getD undef = _ := (RY.ev_tmp a 32).trans (hd 11 _ 32 rfl rfl ⟨⟨11, .data⟩, by simp, rfl, rfl⟩)
          have e38 : a.tmps[38]?.getD undef = _ := (RY.ev_tmp a 38).trans (hd 17 _ 38 rfl rfl ⟨⟨17, .data⟩, by simp, rfl, rfl⟩)
          exact Or.inl ⟨RY.wanted_no rfl, Or.inl ⟨.bool true, X, by simp [execOp, go_sem, e32, e38], Below.refl _ _, rfl⟩⟩
        | 19, ho =>
          injection ho with ho; subst ho
          have e39 : a.tmps[39]?.getD undef = _ := (RY.ev_tmp a 39).trans (hd 18 _ 39 rfl rfl ⟨⟨18, .data⟩, by simp, rfl, rfl⟩)
          exact Or.inl ⟨RY.wanted_no rfl, Or.inl ⟨.bool true, X, by simp [execOp, go_sem, e39], Below.refl _ _, rfl⟩⟩
        | 20, ho =>
          injection ho with ho; subst ho
          have gd := hd 19 _ 40 rfl rfl ⟨⟨19, .guard⟩, by simp, rfl, rfl⟩
          exact Or.inr ⟨(RY.wanted_at rfl rfl rfl gd).trans rfl, rfl⟩
        | 21, ho =>
          injection ho with ho; subst ho
          have gd := hd 19 _ 40 rfl rfl ⟨⟨19, .guard⟩, by simp, rfl, rfl⟩
          exact Or.inr ⟨(RY.wanted_at rfl rfl rfl gd).trans rfl, rfl⟩
        | 22, ho =>
          injection ho with ho; subst ho
          have gd := hd 19 _ 40 rfl rfl ⟨⟨19, .guard⟩, by simp, rfl, rfl⟩
          exact Or.inr ⟨(RY.wanted_at rfl rfl rfl gd).trans rfl, rfl⟩
        | 23, ho =>
          injection ho with ho; subst ho
          have gd := hd 22 _ 43 rfl rfl ⟨⟨22, .guard⟩, by simp, rfl, rfl⟩
          exact Or.inr ⟨RY.wanted_un rfl rfl rfl gd, rfl⟩
        | 24, ho =>
          injection ho with ho; subst ho
          have gd := hd 22 _ 43 rfl rfl ⟨⟨22, .guard⟩, by simp, rfl, rfl⟩
          exact Or.inr ⟨RY.wanted_un rfl rfl rfl gd, rfl⟩
        | 25, ho =>
          injection ho with ho; subst ho
          have gd := hd 22 _ 43 rfl rfl ⟨⟨22, .guard⟩, by simp, rfl, rfl⟩
          exact Or.inr ⟨RY.wanted_un rfl rfl rfl gd, rfl⟩
        | 26, ho =>
          injection ho with ho; subst ho
          have gd := hd 22 _ 43 rfl rfl ⟨⟨22, .guard⟩, by simp, rfl, rfl⟩
          exact Or.inr ⟨RY.wanted_un rfl rfl rfl gd, rfl⟩
        | 27, ho =>
          injection ho with ho; subst ho
          have gd := hd 22 _ 43 rfl rfl ⟨⟨22, .guard⟩, by simp, rfl, rfl⟩
          exact Or.inr ⟨RY.wanted_un rfl rfl rfl gd, rfl⟩
        | 28, ho =>
          injection ho with ho; subst ho
          have gd := hd 22 _ 43 rfl rfl ⟨⟨22, .guard⟩, by simp, rfl, rfl⟩
          exact Or.inr ⟨RY.wanted_un rfl rfl rfl gd, rfl⟩
        | 29, ho =>
          injection ho with ho; subst ho
          have gd := hd 22 _ 43 rfl rfl ⟨⟨22, .guard⟩, by simp, rfl, rfl⟩
          exact Or.inr ⟨RY.wanted_un rfl rfl rfl gd, rfl⟩
        | 30, ho =>
          injection ho with ho; subst ho
          have gd := hd 22 _ 43 rfl rfl ⟨⟨22, .guard⟩, by simp, rfl, rfl⟩
          exact Or.inr ⟨RY.wanted_un rfl rfl rfl gd, rfl⟩
        | 31, ho =>
          injection ho with ho; subst ho
          have gd := hd 22 _ 43 rfl rfl ⟨⟨22, .guard⟩, by simp, rfl, rfl⟩
          exact Or.inr ⟨RY.wanted_un rfl rfl rfl gd, rfl⟩
        | 32, ho =>
          injection ho with ho; subst ho
          have gd := hd 19 _ 40 rfl rfl ⟨⟨19, .guard⟩, by simp, rfl, rfl⟩
          exact Or.inr ⟨(RY.wanted_at rfl rfl rfl gd).trans rfl, rfl⟩
        | 33, ho =>
          injection ho with ho; subst ho
          have e40 : a.tmps[40]?.getD undef = _ := (RY.ev_tmp a 40).trans (hd 19 _ 40 rfl rfl ⟨⟨19, .data⟩, by simp, rfl, rfl⟩)
          have e53 : a.tmps[53]?.getD undef = _ := (RY.ev_tmp a 53).trans (hd 32 _ 53 rfl rfl ⟨⟨32, .data⟩, by simp, rfl, rfl⟩)
          exact Or.inl ⟨RY.wanted_no rfl, Or.inl ⟨.bool true, X, by simp [execOp, go_sem, e40, e53], Below.refl _ _, rfl⟩⟩
        | n + 34, ho => simp at ho
      intro X vs hX hvs
      have q54 : vs 54 = _ := hvs 33 _ 54 rfl rfl
      simp only [RY.putAll, Act.put, List.setIfInBounds_toArray, List.set_cons_zero, List.set_cons_succ]
      rw [q54]
      generalize vs 21 = s21
      generalize vs 22 = s22
      generalize vs 23 = s23
      generalize vs 24 = s24
      generalize vs 25 = s25
      generalize vs 26 = s26
      generalize vs 27 = s27
      generalize vs 28 = s28
      generalize vs 29 = s29
      generalize vs 30 = s30
      generalize vs 31 = s31
      generalize vs 32 = s32
      generalize vs 33 = s33
      generalize vs 34 = s34
      generalize vs 35 = s35
      generalize vs 36 = s36
      generalize vs 37 = s37
      generalize vs 38 = s38
      generalize vs 39 = s39
      generalize vs 40 = s40
      generalize vs 41 = s41
      generalize vs 42 = s42
      generalize vs 43 = s43
      generalize vs 44 = s44
      generalize vs 45 = s45
      generalize vs 46 = s46
      generalize vs 47 = s47
      generalize vs 48 = s48
      generalize vs 49 = s49
      generalize vs 50 = s50
      generalize vs 51 = s51
      generalize vs 52 = s52
      generalize vs 53 = s53
      clear hvs q54
      go_wp2
      go_ret
      exact ⟨Pl.ret_bool HNF.out.symm, blw_trans HWQ.out hX⟩
    have hdm : decide (m = 0) = false := by simpa using hm0
    rw [hdm] at HOK
    clear hdm
    obtain ⟨nm, hnm⟩ : ∃ b, b = Pl.nameOk20 x.name := ⟨_, rfl⟩
    rw [← hnm] at HCNa HOK
    clear hnm
    cases nm
    · have HNF : Hid (Pl.validS s = false) := HNO.out (by rw [HOK.out]; rfl)
      have HCN : Hid (∀ X, Calls Try.prog 29 #[.string x.name] X fun e w' => e = .returned (.bool false) ∧ X = w') := HCNa.out
      obtain ⟨y, ay, cy, b⟩ : Pl.Bl × Option Addr × Nat × Bool := ⟨Pl.blNo, none, 0, false⟩
      refine RY.region_pastG wq (Below.refl _ _) (VSb x m b1) (VSb_mono _ _ _) (by kernel_rfl) (by kernel_rfl) (by kernel_rfl) (by kernel_rfl) ?_ ?_
      · intro i o' ho a X hX hk hd
        have z0 := (HBX.out.later hX).get 0 _ rfl
        have z1 := (HBX.out.later hX).get 1 _ rfl
        have z2 := (HBX.out.later hX).get 2 _ rfl
        have rx := (HBX.out.later hX).at_
        have zb := (HB0.out.later hX).get 0 _ rfl
        match i, ho with
        | 0, ho =>
          injection ho with ho; subst ho
          have e4 : a.tmps[4]?.getD undef = .pointer (some ⟨b1, 0, none⟩) := (RY.ev_tmp a 4).trans ((hk 4 (by kernel_rfl)).trans rfl)
          exact Or.inl ⟨RY.wanted_no rfl, Or.inl ⟨.pointer (some ⟨b1, 0, none⟩), X, by simp [execOp, go_sem, e4], Below.refl _ _, rfl⟩⟩
        | 1, ho =>
          injection ho with ho; subst ho
          have e21 : a.tmps[21]?.getD undef = _ := (RY.ev_tmp a 21).trans (hd 0 _ 21 rfl rfl ⟨⟨0, .data⟩, by simp, rfl, rfl⟩)
          exact Or.inl ⟨RY.wanted_no rfl, Or.inl ⟨.string x.kind, X, by simp [execOp, go_sem, e21, z0], Below.refl _ _, rfl⟩⟩
        | 2, ho =>
          injection ho with ho; subst ho
          have e22 : a.tmps[22]?.getD undef = _ := (RY.ev_tmp a 22).trans (hd 1 _ 22 rfl rfl ⟨⟨1, .data⟩, by simp, rfl, rfl⟩)
          refine Or.inl ⟨RY.wanted_no rfl, Or.inr ⟨28, #[.string x.kind], by simp [go_sem, e22], (HCS.out X).mono ?_⟩⟩
          rintro e W' ⟨v, F, rfl, hr, _, _, hb⟩
          obtain ⟨a1, c1, hv⟩ := hr.raw.len0
          exact ⟨_, rfl, hb, a1, c1, by rw [HM.out]; exact hv⟩
        | 3, ho =>
          injection ho with ho; subst ho
          obtain ⟨a1, c1, e230⟩ := hd 2 _ 23 rfl rfl ⟨⟨2, .data⟩, by simp, rfl, rfl⟩
          have e23 := (RY.ev_tmp a 23).trans e230
          exact Or.inl ⟨RY.wanted_no rfl, Or.inl ⟨.int .i64 (m : Int), X, by simp [go_sem, e23], Below.refl _ _, rfl⟩⟩
        | 4, ho =>
          injection ho with ho; subst ho
          have e24 : a.tmps[24]?.getD undef = _ := (RY.ev_tmp a 24).trans (hd 3 _ 24 rfl rfl ⟨⟨3, .data⟩, by simp, rfl, rfl⟩)
          exact Or.inl ⟨RY.wanted_no rfl, Or.inl ⟨.bool false, X, by simp [execOp, go_sem, e24, hm0], Below.refl _ _, rfl⟩⟩
        | 5, ho =>
          injection ho with ho; subst ho
          have e25 : a.tmps[25]?.getD undef = _ := (RY.ev_tmp a 25).trans (hd 4 _ 25 rfl rfl ⟨⟨4, .data⟩, by simp, rfl, rfl⟩)
          exact Or.inl ⟨RY.wanted_no rfl, Or.inl ⟨.bool false, X, by simp [execOp, go_sem, e25], Below.refl _ _, rfl⟩⟩
        | 6, ho =>
          injection ho with ho; subst ho
          have gd := hd 5 _ 26 rfl rfl ⟨⟨5, .guard⟩, by simp, rfl, rfl⟩
          have e4 : a.tmps[4]?.getD undef = .pointer (some ⟨b1, 0, none⟩) := (RY.ev_tmp a 4).trans ((hk 4 (by kernel_rfl)).trans rfl)
          exact Or.inl ⟨(RY.wanted_at rfl rfl rfl gd).trans rfl, Or.inl ⟨.pointer (some ⟨b1, 1, none⟩), X, by simp [execOp, go_sem, e4], Below.refl _ _, rfl⟩⟩
        | 7, ho =>
          injection ho with ho; subst ho
          have gd := hd 5 _ 26 rfl rfl ⟨⟨5, .guard⟩, by simp, rfl, rfl⟩
          have e27 : a.tmps[27]?.getD undef = _ := (RY.ev_tmp a 27).trans (hd 6 _ 27 rfl rfl ⟨⟨6, .data⟩, by simp, rfl, rfl⟩)
          exact Or.inl ⟨(RY.wanted_at rfl rfl rfl gd).trans rfl, Or.inl ⟨.string x.name, X, by simp [execOp, go_sem, e27, z1], Below.refl _ _, rfl⟩⟩
        | 8, ho =>
          injection ho with ho; subst ho
          have gd := hd 5 _ 26 rfl rfl ⟨⟨5, .guard⟩, by simp, rfl, rfl⟩
          have e28 : a.tmps[28]?.getD undef = _ := (RY.ev_tmp a 28).trans (hd 7 _ 28 rfl rfl ⟨⟨7, .data⟩, by simp, rfl, rfl⟩)
          refine Or.inl ⟨(RY.wanted_at rfl rfl rfl gd).trans rfl, Or.inr ⟨29, #[.string x.name], by simp [go_sem, e28], (HCN.out X).mono ?_⟩⟩
          rintro e W' ⟨rfl, rfl⟩
          exact ⟨_, rfl, Below.refl _ _, rfl⟩
        | 9, ho =>
          injection ho with ho; subst ho
          have gd := hd 5 _ 26 rfl rfl ⟨⟨5, .guard⟩, by simp, rfl, rfl⟩
          have e29 : a.tmps[29]?.getD undef = _ := (RY.ev_tmp a 29).trans (hd 8 _ 29 rfl rfl ⟨⟨8, .data⟩, by simp, rfl, rfl⟩)
          exact Or.inl ⟨(RY.wanted_at rfl rfl rfl gd).trans rfl, Or.inl ⟨.bool true, X, by simp [execOp, go_sem, e29], Below.refl _ _, rfl⟩⟩
        | 10, ho =>
          injection ho with ho; subst ho
          have e26 : a.tmps[26]?.getD undef = _ := (RY.ev_tmp a 26).trans (hd 5 _ 26 rfl rfl ⟨⟨5, .data⟩, by simp, rfl, rfl⟩)
          have e30 : a.tmps[30]?.getD undef = _ := (RY.ev_tmp a 30).trans (hd 9 _ 30 rfl rfl ⟨⟨9, .data⟩, by simp, rfl, rfl⟩)
          exact Or.inl ⟨RY.wanted_no rfl, Or.inl ⟨.bool true, X, by simp [execOp, go_sem, e26, e30], Below.refl _ _, rfl⟩⟩
        | 11, ho =>
          injection ho with ho; subst ho
          have e31 : a.tmps[31]?.getD undef = _ := (RY.ev_tmp a 31).trans (hd 10 _ 31 rfl rfl ⟨⟨10, .data⟩, by simp, rfl, rfl⟩)
          exact Or.inl ⟨RY.wanted_no rfl, Or.inl ⟨.bool true, X, by simp [execOp, go_sem, e31], Below.refl _ _, rfl⟩⟩
        | 12, ho =>
          injection ho with ho; subst ho
          have gd := hd 11 _ 32 rfl rfl ⟨⟨11, .guard⟩, by simp, rfl, rfl⟩
          exact Or.inr ⟨(RY.wanted_at rfl rfl rfl gd).trans rfl, rfl⟩
        | 13, ho =>
          injection ho with ho; subst ho
          have gd := hd 11 _ 32 rfl rfl ⟨⟨11, .guard⟩, by simp, rfl, rfl⟩
          exact Or.inr ⟨(RY.wanted_at rfl rfl rfl gd).trans rfl, rfl⟩
        | 14, ho =>
          injection ho with ho; subst ho
          have gd := hd 11 _ 32 rfl rfl ⟨⟨11, .guard⟩, by simp, rfl, rfl⟩
          exact Or.inr ⟨(RY.wanted_at rfl rfl rfl gd).trans rfl, rfl⟩
        | 15, ho =>
          injection ho with ho; subst ho
          have gd := hd 11 _ 32 rfl rfl ⟨⟨11, .guard⟩, by simp, rfl, rfl⟩
          exact Or.inr ⟨(RY.wanted_at rfl rfl rfl gd).trans rfl, rfl⟩
        | 16, ho =>
          injection ho with ho; subst ho
          have gd := hd 11 _ 32 rfl rfl ⟨⟨11, .guard⟩, by simp, rfl, rfl⟩
          exact Or.inr ⟨(RY.wanted_at rfl rfl rfl gd).trans rfl, rfl⟩
        | 17, ho =>
          injection ho with ho; subst ho
          have gd := hd 11 _ 32 rfl rfl ⟨⟨11, .guard⟩, by simp, rfl, rfl⟩
          exact Or.inr ⟨(RY.wanted_at rfl rfl rfl gd).trans rfl, rfl⟩
        | 18, ho =>
          injection ho with ho; subst ho
          have e32 : a.tmps[32]?.getD undef = _ := (RY.ev_tmp a 32).trans (hd 11 _ 32 rfl rfl ⟨⟨11, .data⟩, by simp, rfl, rfl⟩)
          have e38 : a.tmps[38]?.getD undef = _ := (RY.ev_tmp a 38).trans (hd 17 _ 38 rfl rfl ⟨⟨17, .data⟩, by simp, rfl, rfl⟩)
          exact Or.inl ⟨RY.wanted_no rfl, Or.inl ⟨.bool true, X, by simp [execOp, go_sem, e32, e38], Below.refl _ _, rfl⟩⟩
        | 19, ho =>
          injection ho with ho; subst ho
          have e39 : a.tmps[39]?.getD undef = _ := (RY.ev_tmp a 39).trans (hd 18 _ 39 rfl rfl ⟨⟨18, .data⟩, by simp, rfl, rfl⟩)
          exact Or.inl ⟨RY.wanted_no rfl, Or.inl ⟨.bool true, X, by simp [execOp, go_sem, e39], Below.refl _ _, rfl⟩⟩
        | 20, ho =>
          injection ho with ho; subst ho
          have gd := hd 19 _ 40 rfl rfl ⟨⟨19, .guard⟩, by simp, rfl, rfl⟩
          exact Or.inr ⟨(RY.wanted_at rfl rfl rfl gd).trans rfl, rfl⟩
        | 21, ho =>
          injection ho with ho; subst ho
          have gd := hd 19 _ 40 rfl rfl ⟨⟨19, .guard⟩, by simp, rfl, rfl⟩
          exact Or.inr ⟨(RY.wanted_at rfl rfl rfl gd).trans rfl, rfl⟩
        | 22, ho =>
          injection ho with ho; subst ho
          have gd := hd 19 _ 40 rfl rfl ⟨⟨19, .guard⟩, by simp, rfl, rfl⟩
          exact Or.inr ⟨(RY.wanted_at rfl rfl rfl gd).trans rfl, rfl⟩
        | 23, ho =>
          injection ho with ho; subst ho
          have gd := hd 22 _ 43 rfl rfl ⟨⟨22, .guard⟩, by simp, rfl, rfl⟩
          exact Or.inr ⟨RY.wanted_un rfl rfl rfl gd, rfl⟩
        | 24, ho =>
          injection ho with ho; subst ho
          have gd := hd 22 _ 43 rfl rfl ⟨⟨22, .guard⟩, by simp, rfl, rfl⟩
          exact Or.inr ⟨RY.wanted_un rfl rfl rfl gd, rfl⟩
        | 25, ho =>
          injection ho with ho; subst ho
          have gd := hd 22 _ 43 rfl rfl ⟨⟨22, .guard⟩, by simp, rfl, rfl⟩
          exact Or.inr ⟨RY.wanted_un rfl rfl rfl gd, rfl⟩
        | 26, ho =>
          injection ho with ho; subst ho
          have gd := hd 22 _ 43 rfl rfl ⟨⟨22, .guard⟩, by simp, rfl, rfl⟩
          exact Or.inr ⟨RY.wanted_un rfl rfl rfl gd, rfl⟩
        | 27, ho =>
          injection ho with ho; subst ho
          have gd := hd 22 _ 43 rfl rfl ⟨⟨22, .guard⟩, by simp, rfl, rfl⟩
          exact Or.inr ⟨RY.wanted_un rfl rfl rfl gd, rfl⟩
        | 28, ho =>
          injection ho with ho; subst ho
          have gd := hd 22 _ 43 rfl rfl ⟨⟨22, .guard⟩, by simp, rfl, rfl⟩
          exact Or.inr ⟨RY.wanted_un rfl rfl rfl gd, rfl⟩
        | 29, ho =>
          injection ho with ho; subst ho
          have gd := hd 22 _ 43 rfl rfl ⟨⟨22, .guard⟩, by simp, rfl, rfl⟩
          exact Or.inr ⟨RY.wanted_un rfl rfl rfl gd, rfl⟩
        | 30, ho =>
          injection ho with ho; subst ho
          have gd := hd 22 _ 43 rfl rfl ⟨⟨22, .guard⟩, by simp, rfl, rfl⟩
          exact Or.inr ⟨RY.wanted_un rfl rfl rfl gd, rfl⟩
        | 31, ho =>
          injection ho with ho; subst ho
          have gd := hd 22 _ 43 rfl rfl ⟨⟨22, .guard⟩, by simp, rfl, rfl⟩
          exact Or.inr ⟨RY.wanted_un rfl rfl rfl gd, rfl⟩
        | 32, ho =>
          injection ho with ho; subst ho
          have gd := hd 19 _ 40 rfl rfl ⟨⟨19, .guard⟩, by simp, rfl, rfl⟩
          exact Or.inr ⟨(RY.wanted_at rfl rfl rfl gd).trans rfl, rfl⟩
        | 33, ho =>
          injection ho with ho; subst ho
          have e40 : a.tmps[40]?.getD undef = _ := (RY.ev_tmp a 40).trans (hd 19 _ 40 rfl rfl ⟨⟨19, .data⟩, by simp, rfl, rfl⟩)
          have e53 : a.tmps[53]?.getD undef = _ := (RY.ev_tmp a 53).trans (hd 32 _ 53 rfl rfl ⟨⟨32, .data⟩, by simp, rfl, rfl⟩)
          exact Or.inl ⟨RY.wanted_no rfl, Or.inl ⟨.bool true, X, by simp [execOp, go_sem, e40, e53], Below.refl _ _, rfl⟩⟩
        | n + 34, ho => simp at ho
      intro X vs hX hvs
      have q54 : vs 54 = _ := hvs 33 _ 54 rfl rfl
      simp only [RY.putAll, Act.put, List.setIfInBounds_toArray, List.set_cons_zero, List.set_cons_succ]
      rw [q54]
      generalize vs 21 = s21
      generalize vs 22 = s22
      generalize vs 23 = s23
      generalize vs 24 = s24
      generalize vs 25 = s25
      generalize vs 26 = s26
      generalize vs 27 = s27
      generalize vs 28 = s28
      generalize vs 29 = s29
      generalize vs 30 = s30
      generalize vs 31 = s31
      generalize vs 32 = s32
      generalize vs 33 = s33
      generalize vs 34 = s34
      generalize vs 35 = s35
      generalize vs 36 = s36
      generalize vs 37 = s37
      generalize vs 38 = s38
      generalize vs 39 = s39
      generalize vs 40 = s40
      generalize vs 41 = s41
      generalize vs 42 = s42
      generalize vs 43 = s43
      generalize vs 44 = s44
      generalize vs 45 = s45
      generalize vs 46 = s46
      generalize vs 47 = s47
      generalize vs 48 = s48
      generalize vs 49 = s49
      generalize vs 50 = s50
      generalize vs 51 = s51
      generalize vs 52 = s52
      generalize vs 53 = s53
      clear hvs q54
      go_wp2
      go_ret
      exact ⟨Pl.ret_bool HNF.out.symm, blw_trans HWQ.out hX⟩
    have HCN : Hid (∀ X, Calls Try.prog 29 #[.string x.name] X fun e w' => e = .returned (.bool true) ∧ X = w') := HCNa.out
    clear HCNa
    obtain ⟨ln, hln⟩ : ∃ b, b = Pl.linesOk x.kind x.lines := ⟨_, rfl⟩
    rw [← hln] at HCLa HOK
    clear hln
    cases ln
    · have HNF : Hid (Pl.validS s = false) := HNO.out (by rw [HOK.out]; rfl)
      have HCL : Hid (∀ X : World, Below wq.heap.size wq X → Calls Try.prog 30 #[.string x.kind, .slice ax x.lines.length cx] X fun e w' => e = .returned (.bool false) ∧ Below X.heap.size X w') := HCLa.out
      obtain ⟨y, ay, cy, b⟩ : Pl.Bl × Option Addr × Nat × Bool := ⟨Pl.blNo, none, 0, false⟩
      refine RY.region_pastG wq (Below.refl _ _) (VSc x ax cx m b1) (VSc_mono _ _ _ _ _) (by kernel_rfl) (by kernel_rfl) (by kernel_rfl) (by kernel_rfl) ?_ ?_
      · intro i o' ho a X hX hk hd
        have z0 := (HBX.out.later hX).get 0 _ rfl
        have z1 := (HBX.out.later hX).get 1 _ rfl
        have z2 := (HBX.out.later hX).get 2 _ rfl
        have rx := (HBX.out.later hX).at_
        have zb := (HB0.out.later hX).get 0 _ rfl
        match i, ho with
        | 0, ho =>
          injection ho with ho; subst ho
          have e4 : a.tmps[4]?.getD undef = .pointer (some ⟨b1, 0, none⟩) := (RY.ev_tmp a 4).trans ((hk 4 (by kernel_rfl)).trans rfl)
          exact Or.inl ⟨RY.wanted_no rfl, Or.inl ⟨.pointer (some ⟨b1, 0, none⟩), X, by simp [execOp, go_sem, e4], Below.refl _ _, rfl⟩⟩
        | 1, ho =>
          injection ho with ho; subst ho
          have e21 : a.tmps[21]?.getD undef = _ := (RY.ev_tmp a 21).trans (hd 0 _ 21 rfl rfl ⟨⟨0, .data⟩, by simp, rfl, rfl⟩)
          exact Or.inl ⟨RY.wanted_no rfl, Or.inl ⟨.string x.kind, X, by simp [execOp, go_sem, e21, z0], Below.refl _ _, rfl⟩⟩
        | 2, ho =>
          injection ho with ho; subst ho
          have e22 : a.tmps[22]?.getD undef = _ := (RY.ev_tmp a 22).trans (hd 1 _ 22 rfl rfl ⟨⟨1, .data⟩, by simp, rfl, rfl⟩)
          refine Or.inl ⟨RY.wanted_no rfl, Or.inr ⟨28, #[.string x.kind], by simp [go_sem, e22], (HCS.out X).mono ?_⟩⟩
          rintro e W' ⟨v, F, rfl, hr, _, _, hb⟩
          obtain ⟨a1, c1, hv⟩ := hr.raw.len0
          exact ⟨_, rfl, hb, a1, c1, by rw [HM.out]; exact hv⟩
        | 3, ho =>
          injection ho with ho; subst ho
          obtain ⟨a1, c1, e230⟩ := hd 2 _ 23 rfl rfl ⟨⟨2, .data⟩, by simp, rfl, rfl⟩
          have e23 := (RY.ev_tmp a 23).trans e230
          exact Or.inl ⟨RY.wanted_no rfl, Or.inl ⟨.int .i64 (m : Int), X, by simp [go_sem, e23], Below.refl _ _, rfl⟩⟩
        | 4, ho =>
          injection ho with ho; subst ho
          have e24 : a.tmps[24]?.getD undef = _ := (RY.ev_tmp a 24).trans (hd 3 _ 24 rfl rfl ⟨⟨3, .data⟩, by simp, rfl, rfl⟩)
          exact Or.inl ⟨RY.wanted_no rfl, Or.inl ⟨.bool false, X, by simp [execOp, go_sem, e24, hm0], Below.refl _ _, rfl⟩⟩
        | 5, ho =>
          injection ho with ho; subst ho
          have e25 : a.tmps[25]?.getD undef = _ := (RY.ev_tmp a 25).trans (hd 4 _ 25 rfl rfl ⟨⟨4, .data⟩, by simp, rfl, rfl⟩)
          exact Or.inl ⟨RY.wanted_no rfl, Or.inl ⟨.bool false, X, by simp [execOp, go_sem, e25], Below.refl _ _, rfl⟩⟩
        | 6, ho =>
          injection ho with ho; subst ho
          have gd := hd 5 _ 26 rfl rfl ⟨⟨5, .guard⟩, by simp, rfl, rfl⟩
          have e4 : a.tmps[4]?.getD undef = .pointer (some ⟨b1, 0, none⟩) := (RY.ev_tmp a 4).trans ((hk 4 (by kernel_rfl)).trans rfl)
          exact Or.inl ⟨(RY.wanted_at rfl rfl rfl gd).trans rfl, Or.inl ⟨.pointer (some ⟨b1, 1, none⟩), X, by simp [execOp, go_sem, e4], Below.refl _ _, rfl⟩⟩
        | 7, ho =>
          injection ho with ho; subst ho
          have gd := hd 5 _ 26 rfl rfl ⟨⟨5, .guard⟩, by simp, rfl, rfl⟩
          have e27 : a.tmps[27]?.getD undef = _ := (RY.ev_tmp a 27).trans (hd 6 _ 27 rfl rfl ⟨⟨6, .data⟩, by simp, rfl, rfl⟩)
          exact Or.inl ⟨(RY.wanted_at rfl rfl rfl gd).trans rfl, Or.inl ⟨.string x.name, X, by simp [execOp, go_sem, e27, z1], Below.refl _ _, rfl⟩⟩
        | 8, ho =>
          injection ho with ho; subst ho
          have gd := hd 5 _ 26 rfl rfl ⟨⟨5, .guard⟩, by simp, rfl, rfl⟩
          have e28 : a.tmps[28]?.getD undef = _ := (RY.ev_tmp a 28).trans (hd 7 _ 28 rfl rfl ⟨⟨7, .data⟩, by simp, rfl, rfl⟩)
          refine Or.inl ⟨(RY.wanted_at rfl rfl rfl gd).trans rfl, Or.inr ⟨29, #[.string x.name], by simp [go_sem, e28], (HCN.out X).mono ?_⟩⟩
          rintro e W' ⟨rfl, rfl⟩
          exact ⟨_, rfl, Below.refl _ _, rfl⟩
        | 9, ho =>
          injection ho with ho; subst ho
          have gd := hd 5 _ 26 rfl rfl ⟨⟨5, .guard⟩, by simp, rfl, rfl⟩
          have e29 : a.tmps[29]?.getD undef = _ := (RY.ev_tmp a 29).trans (hd 8 _ 29 rfl rfl ⟨⟨8, .data⟩, by simp, rfl, rfl⟩)
          exact Or.inl ⟨(RY.wanted_at rfl rfl rfl gd).trans rfl, Or.inl ⟨.bool false, X, by simp [execOp, go_sem, e29], Below.refl _ _, rfl⟩⟩
        | 10, ho =>
          injection ho with ho; subst ho
          have e26 : a.tmps[26]?.getD undef = _ := (RY.ev_tmp a 26).trans (hd 5 _ 26 rfl rfl ⟨⟨5, .data⟩, by simp, rfl, rfl⟩)
          have e30 : a.tmps[30]?.getD undef = _ := (RY.ev_tmp a 30).trans (hd 9 _ 30 rfl rfl ⟨⟨9, .data⟩, by simp, rfl, rfl⟩)
          exact Or.inl ⟨RY.wanted_no rfl, Or.inl ⟨.bool false, X, by simp [execOp, go_sem, e26, e30], Below.refl _ _, rfl⟩⟩
        | 11, ho =>
          injection ho with ho; subst ho
          have e31 : a.tmps[31]?.getD undef = _ := (RY.ev_tmp a 31).trans (hd 10 _ 31 rfl rfl ⟨⟨10, .data⟩, by simp, rfl, rfl⟩)
          exact Or.inl ⟨RY.wanted_no rfl, Or.inl ⟨.bool false, X, by simp [execOp, go_sem, e31], Below.refl _ _, rfl⟩⟩
        | 12, ho =>
          injection ho with ho; subst ho
          have gd := hd 11 _ 32 rfl rfl ⟨⟨11, .guard⟩, by simp, rfl, rfl⟩
          have e4 : a.tmps[4]?.getD undef = .pointer (some ⟨b1, 0, none⟩) := (RY.ev_tmp a 4).trans ((hk 4 (by kernel_rfl)).trans rfl)
          exact Or.inl ⟨(RY.wanted_at rfl rfl rfl gd).trans rfl, Or.inl ⟨.pointer (some ⟨b1, 0, none⟩), X, by simp [execOp, go_sem, e4], Below.refl _ _, rfl⟩⟩
        | 13, ho =>
          injection ho with ho; subst ho
          have gd := hd 11 _ 32 rfl rfl ⟨⟨11, .guard⟩, by simp, rfl, rfl⟩
          have e33 : a.tmps[33]?.getD undef = _ := (RY.ev_tmp a 33).trans (hd 12 _ 33 rfl rfl ⟨⟨12, .data⟩, by simp, rfl, rfl⟩)
          exact Or.inl ⟨(RY.wanted_at rfl rfl rfl gd).trans rfl, Or.inl ⟨.string x.kind, X, by simp [execOp, go_sem, e33, z0], Below.refl _ _, rfl⟩⟩
        | 14, ho =>
          injection ho with ho; subst ho
          have gd := hd 11 _ 32 rfl rfl ⟨⟨11, .guard⟩, by simp, rfl, rfl⟩
          have e4 : a.tmps[4]?.getD undef = .pointer (some ⟨b1, 0, none⟩) := (RY.ev_tmp a 4).trans ((hk 4 (by kernel_rfl)).trans rfl)
          exact Or.inl ⟨(RY.wanted_at rfl rfl rfl gd).trans rfl, Or.inl ⟨.pointer (some ⟨b1, 2, none⟩), X, by simp [execOp, go_sem, e4], Below.refl _ _, rfl⟩⟩
        | 15, ho =>
          injection ho with ho; subst ho
          have gd := hd 11 _ 32 rfl rfl ⟨⟨11, .guard⟩, by simp, rfl, rfl⟩
          have e35 : a.tmps[35]?.getD undef = _ := (RY.ev_tmp a 35).trans (hd 14 _ 35 rfl rfl ⟨⟨14, .data⟩, by simp, rfl, rfl⟩)
          exact Or.inl ⟨(RY.wanted_at rfl rfl rfl gd).trans rfl, Or.inl ⟨.slice ax x.lines.length cx, X, by simp [execOp, go_sem, e35, z2], Below.refl _ _, rfl⟩⟩
        | 16, ho =>
          injection ho with ho; subst ho
          have gd := hd 11 _ 32 rfl rfl ⟨⟨11, .guard⟩, by simp, rfl, rfl⟩
          have e34 : a.tmps[34]?.getD undef = _ := (RY.ev_tmp a 34).trans (hd 13 _ 34 rfl rfl ⟨⟨13, .data⟩, by simp, rfl, rfl⟩)
          have e36 : a.tmps[36]?.getD undef = _ := (RY.ev_tmp a 36).trans (hd 15 _ 36 rfl rfl ⟨⟨15, .data⟩, by simp, rfl, rfl⟩)
          refine Or.inl ⟨(RY.wanted_at rfl rfl rfl gd).trans rfl, Or.inr ⟨30, #[.string x.kind, .slice ax x.lines.length cx], by simp [go_sem, e34, e36], (HCL.out X hX).mono ?_⟩⟩
          rintro e W' ⟨rfl, hb⟩
          exact ⟨_, rfl, hb, rfl⟩
        | 17, ho =>
          injection ho with ho; subst ho
          have gd := hd 11 _ 32 rfl rfl ⟨⟨11, .guard⟩, by simp, rfl, rfl⟩
          have e37 : a.tmps[37]?.getD undef = _ := (RY.ev_tmp a 37).trans (hd 16 _ 37 rfl rfl ⟨⟨16, .data⟩, by simp, rfl, rfl⟩)
          exact Or.inl ⟨(RY.wanted_at rfl rfl rfl gd).trans rfl, Or.inl ⟨.bool true, X, by simp [execOp, go_sem, e37], Below.refl _ _, rfl⟩⟩
        | 18, ho =>
          injection ho with ho; subst ho
          have e32 : a.tmps[32]?.getD undef = _ := (RY.ev_tmp a 32).trans (hd 11 _ 32 rfl rfl ⟨⟨11, .data⟩, by simp, rfl, rfl⟩)
          have e38 : a.tmps[38]?.getD undef = _ := (RY.ev_tmp a 38).trans (hd 17 _ 38 rfl rfl ⟨⟨17, .data⟩, by simp, rfl, rfl⟩)
          exact Or.inl ⟨RY.wanted_no rfl, Or.inl ⟨.bool true, X, by simp [execOp, go_sem, e32, e38], Below.refl _ _, rfl⟩⟩
        | 19, ho =>
          injection ho with ho; subst ho
          have e39 : a.tmps[39]?.getD undef = _ := (RY.ev_tmp a 39).trans (hd 18 _ 39 rfl rfl ⟨⟨18, .data⟩, by simp, rfl, rfl⟩)
          exact Or.inl ⟨RY.wanted_no rfl, Or.inl ⟨.bool true, X, by simp [execOp, go_sem, e39], Below.refl _ _, rfl⟩⟩
        | 20, ho =>
          injection ho with ho; subst ho
          have gd := hd 19 _ 40 rfl rfl ⟨⟨19, .guard⟩, by simp, rfl, rfl⟩
          exact Or.inr ⟨(RY.wanted_at rfl rfl rfl gd).trans rfl, rfl⟩
        | 21, ho =>
          injection ho with ho; subst ho
          have gd := hd 19 _ 40 rfl rfl ⟨⟨19, .guard⟩, by simp, rfl, rfl⟩
          exact Or.inr ⟨(RY.wanted_at rfl rfl rfl gd).trans rfl, rfl⟩
        | 22, ho =>
          injection ho with ho; subst ho
          have gd := hd 19 _ 40 rfl rfl ⟨⟨19, .guard⟩, by simp, rfl, rfl⟩
          exact Or.inr ⟨(RY.wanted_at rfl rfl rfl gd).trans rfl, rfl⟩
        | 23, ho =>
          injection ho with ho; subst ho
          have gd := hd 22 _ 43 rfl rfl ⟨⟨22, .guard⟩, by simp, rfl, rfl⟩
          exact Or.inr ⟨RY.wanted_un rfl rfl rfl gd, rfl⟩
        | 24, ho =>
          injection ho with ho; subst ho
          have gd := hd 22 _ 43 rfl rfl ⟨⟨22, .guard⟩, by simp, rfl, rfl⟩
          exact Or.inr ⟨RY.wanted_un rfl rfl rfl gd, rfl⟩
        | 25, ho =>
          injection ho with ho; subst ho
          have gd := hd 22 _ 43 rfl rfl ⟨⟨22, .guard⟩, by simp, rfl, rfl⟩
          exact Or.inr ⟨RY.wanted_un rfl rfl rfl gd, rfl⟩
        | 26, ho =>
          injection ho with ho; subst ho
          have gd := hd 22 _ 43 rfl rfl ⟨⟨22, .guard⟩, by simp, rfl, rfl⟩
          exact Or.inr ⟨RY.wanted_un rfl rfl rfl gd, rfl⟩
        | 27, ho =>
          injection ho with ho; subst ho
          have gd := hd 22 _ 43 rfl rfl ⟨⟨22, .guard⟩, by simp, rfl, rfl⟩
          exact Or.inr ⟨RY.wanted_un rfl rfl rfl gd, rfl⟩
        | 28, ho =>
          injection ho with ho; subst ho
          have gd := hd 22 _ 43 rfl rfl ⟨⟨22, .guard⟩, by simp, rfl, rfl⟩
          exact Or.inr ⟨RY.wanted_un rfl rfl rfl gd, rfl⟩
        | 29, ho =>
          injection ho with ho; subst ho
          have gd := hd 22 _ 43 rfl rfl ⟨⟨22, .guard⟩, by simp, rfl, rfl⟩
          exact Or.inr ⟨RY.wanted_un rfl rfl rfl gd, rfl⟩
        | 30, ho =>
          injection ho with ho; subst ho
          have gd := hd 22 _ 43 rfl rfl ⟨⟨22, .guard⟩, by simp, rfl, rfl⟩
          exact Or.inr ⟨RY.wanted_un rfl rfl rfl gd, rfl⟩
        | 31, ho =>
          injection ho with ho; subst ho
          have gd := hd 22 _ 43 rfl rfl ⟨⟨22, .guard⟩, by simp, rfl, rfl⟩
          exact Or.inr ⟨RY.wanted_un rfl rfl rfl gd, rfl⟩
        | 32, ho =>
          injection ho with ho; subst ho
          have gd := hd 19 _ 40 rfl rfl ⟨⟨19, .guard⟩, by simp, rfl, rfl⟩
          exact Or.inr ⟨(RY.wanted_at rfl rfl rfl gd).trans rfl, rfl⟩
        | 33, ho =>
          injection ho with ho; subst ho
          have e40 : a.tmps[40]?.getD undef = _ := (RY.ev_tmp a 40).trans (hd 19 _ 40 rfl rfl ⟨⟨19, .data⟩, by simp, rfl, rfl⟩)
          have e53 : a.tmps[53]?.getD undef = _ := (RY.ev_tmp a 53).trans (hd 32 _ 53 rfl rfl ⟨⟨32, .data⟩, by simp, rfl, rfl⟩)
          exact Or.inl ⟨RY.wanted_no rfl, Or.inl ⟨.bool true, X, by simp [execOp, go_sem, e40, e53], Below.refl _ _, rfl⟩⟩
        | n + 34, ho => simp at ho
      intro X vs hX hvs
      have q54 : vs 54 = _ := hvs 33 _ 54 rfl rfl
      simp only [RY.putAll, Act.put, List.setIfInBounds_toArray, List.set_cons_zero, List.set_cons_succ]
      rw [q54]
      generalize vs 21 = s21
      generalize vs 22 = s22
      generalize vs 23 = s23
      generalize vs 24 = s24
      generalize vs 25 = s25
      generalize vs 26 = s26
      generalize vs 27 = s27
      generalize vs 28 = s28
      generalize vs 29 = s29
      generalize vs 30 = s30
      generalize vs 31 = s31
      generalize vs 32 = s32
      generalize vs 33 = s33
      generalize vs 34 = s34
      generalize vs 35 = s35
      generalize vs 36 = s36
      generalize vs 37 = s37
      generalize vs 38 = s38
      generalize vs 39 = s39
      generalize vs 40 = s40
      generalize vs 41 = s41
      generalize vs 42 = s42
      generalize vs 43 = s43
      generalize vs 44 = s44
      generalize vs 45 = s45
      generalize vs 46 = s46
      generalize vs 47 = s47
      generalize vs 48 = s48
      generalize vs 49 = s49
      generalize vs 50 = s50
      generalize vs 51 = s51
      generalize vs 52 = s52
      generalize vs 53 = s53
      clear hvs q54
      go_wp2
      go_ret
      exact ⟨Pl.ret_bool HNF.out.symm, blw_trans HWQ.out hX⟩
    have HCL : Hid (∀ X : World, Below wq.heap.size wq X → Calls Try.prog 30 #[.string x.kind, .slice ax x.lines.length cx] X fun e w' => e = .returned (.bool true) ∧ Below X.heap.size X w') := HCLa.out
    clear HCLa
    by_cases hz0 : k = 0
    · have hposN : ¬ 0 < k := by omega
      have hd0 : decide (k = 0) = true := by simpa using hz0
      rw [hd0] at HOK
      clear hz0 hd0
      obtain ⟨y, ay, cy, b⟩ : Pl.Bl × Option Addr × Nat × Bool := ⟨Pl.blNo, none, 0, false⟩
      refine RY.region_pastG wq (Below.refl _ _) (VSd x ax cx k m b1) (VSd_mono _ _ _ _ _ _) (by kernel_rfl) (by kernel_rfl) (by kernel_rfl) (by kernel_rfl) ?_ ?_
      · intro i o' ho a X hX hk hd
        have z0 := (HBX.out.later hX).get 0 _ rfl
        have z1 := (HBX.out.later hX).get 1 _ rfl
        have z2 := (HBX.out.later hX).get 2 _ rfl
        have rx := (HBX.out.later hX).at_
        have zb := (HB0.out.later hX).get 0 _ rfl
        match i, ho with
        | 0, ho =>
          injection ho with ho; subst ho
          have e4 : a.tmps[4]?.getD undef = .pointer (some ⟨b1, 0, none⟩) := (RY.ev_tmp a 4).trans ((hk 4 (by kernel_rfl)).trans rfl)
          exact Or.inl ⟨RY.wanted_no rfl, Or.inl ⟨.pointer (some ⟨b1, 0, none⟩), X, by simp [execOp, go_sem, e4], Below.refl _ _, rfl⟩⟩
        | 1, ho =>
          injection ho with ho; subst ho
          have e21 : a.tmps[21]?.getD undef = _ := (RY.ev_tmp a 21).trans (hd 0 _ 21 rfl rfl ⟨⟨0, .data⟩, by simp, rfl, rfl⟩)
          exact Or.inl ⟨RY.wanted_no rfl, Or.inl ⟨.string x.kind, X, by simp [execOp, go_sem, e21, z0], Below.refl _ _, rfl⟩⟩
        | 2, ho =>
          injection ho with ho; subst ho
          have e22 : a.tmps[22]?.getD undef = _ := (RY.ev_tmp a 22).trans (hd 1 _ 22 rfl rfl ⟨⟨1, .data⟩, by simp, rfl, rfl⟩)
          refine Or.inl ⟨RY.wanted_no rfl, Or.inr ⟨28, #[.string x.kind], by simp [go_sem, e22], (HCS.out X).mono ?_⟩⟩
          rintro e W' ⟨v, F, rfl, hr, _, _, hb⟩
          obtain ⟨a1, c1, hv⟩ := hr.raw.len0
          exact ⟨_, rfl, hb, a1, c1, by rw [HM.out]; exact hv⟩
        | 3, ho =>
          injection ho with ho; subst ho
          obtain ⟨a1, c1, e230⟩ := hd 2 _ 23 rfl rfl ⟨⟨2, .data⟩, by simp, rfl, rfl⟩
          have e23 := (RY.ev_tmp a 23).trans e230
          exact Or.inl ⟨RY.wanted_no rfl, Or.inl ⟨.int .i64 (m : Int), X, by simp [go_sem, e23], Below.refl _ _, rfl⟩⟩
        | 4, ho =>
          injection ho with ho; subst ho
          have e24 : a.tmps[24]?.getD undef = _ := (RY.ev_tmp a 24).trans (hd 3 _ 24 rfl rfl ⟨⟨3, .data⟩, by simp, rfl, rfl⟩)
          exact Or.inl ⟨RY.wanted_no rfl, Or.inl ⟨.bool false, X, by simp [execOp, go_sem, e24, hm0], Below.refl _ _, rfl⟩⟩
        | 5, ho =>
          injection ho with ho; subst ho
          have e25 : a.tmps[25]?.getD undef = _ := (RY.ev_tmp a 25).trans (hd 4 _ 25 rfl rfl ⟨⟨4, .data⟩, by simp, rfl, rfl⟩)
          exact Or.inl ⟨RY.wanted_no rfl, Or.inl ⟨.bool false, X, by simp [execOp, go_sem, e25], Below.refl _ _, rfl⟩⟩
        | 6, ho =>
          injection ho with ho; subst ho
          have gd := hd 5 _ 26 rfl rfl ⟨⟨5, .guard⟩, by simp, rfl, rfl⟩
          have e4 : a.tmps[4]?.getD undef = .pointer (some ⟨b1, 0, none⟩) := (RY.ev_tmp a 4).trans ((hk 4 (by kernel_rfl)).trans rfl)
          exact Or.inl ⟨(RY.wanted_at rfl rfl rfl gd).trans rfl, Or.inl ⟨.pointer (some ⟨b1, 1, none⟩), X, by simp [execOp, go_sem, e4], Below.refl _ _, rfl⟩⟩
        | 7, ho =>
          injection ho with ho; subst ho
          have gd := hd 5 _ 26 rfl rfl ⟨⟨5, .guard⟩, by simp, rfl, rfl⟩
          have e27 : a.tmps[27]?.getD undef = _ := (RY.ev_tmp a 27).trans (hd 6 _ 27 rfl rfl ⟨⟨6, .data⟩, by simp, rfl, rfl⟩)
          exact Or.inl ⟨(RY.wanted_at rfl rfl rfl gd).trans rfl, Or.inl ⟨.string x.name, X, by simp [execOp, go_sem, e27, z1], Below.refl _ _, rfl⟩⟩
        | 8, ho =>
          injection ho with ho; subst ho
          have gd := hd 5 _ 26 rfl rfl ⟨⟨5, .guard⟩, by simp, rfl, rfl⟩
          have e28 : a.tmps[28]?.getD undef = _ := (RY.ev_tmp a 28).trans (hd 7 _ 28 rfl rfl ⟨⟨7, .data⟩, by simp, rfl, rfl⟩)
          refine Or.inl ⟨(RY.wanted_at rfl rfl rfl gd).trans rfl, Or.inr ⟨29, #[.string x.name], by simp [go_sem, e28], (HCN.out X).mono ?_⟩⟩
          rintro e W' ⟨rfl, rfl⟩
          exact ⟨_, rfl, Below.refl _ _, rfl⟩
        | 9, ho =>
          injection ho with ho; subst ho
          have gd := hd 5 _ 26 rfl rfl ⟨⟨5, .guard⟩, by simp, rfl, rfl⟩
          have e29 : a.tmps[29]?.getD undef = _ := (RY.ev_tmp a 29).trans (hd 8 _ 29 rfl rfl ⟨⟨8, .data⟩, by simp, rfl, rfl⟩)
          exact Or.inl ⟨(RY.wanted_at rfl rfl rfl gd).trans rfl, Or.inl ⟨.bool false, X, by simp [execOp, go_sem, e29], Below.refl _ _, rfl⟩⟩
        | 10, ho =>
          injection ho with ho; subst ho
          have e26 : a.tmps[26]?.getD undef = _ := (RY.ev_tmp a 26).trans (hd 5 _ 26 rfl rfl ⟨⟨5, .data⟩, by simp, rfl, rfl⟩)
          have e30 : a.tmps[30]?.getD undef = _ := (RY.ev_tmp a 30).trans (hd 9 _ 30 rfl rfl ⟨⟨9, .data⟩, by simp, rfl, rfl⟩)
          exact Or.inl ⟨RY.wanted_no rfl, Or.inl ⟨.bool false, X, by simp [execOp, go_sem, e26, e30], Below.refl _ _, rfl⟩⟩
        | 11, ho =>
          injection ho with ho; subst ho
          have e31 : a.tmps[31]?.getD undef = _ := (RY.ev_tmp a 31).trans (hd 10 _ 31 rfl rfl ⟨⟨10, .data⟩, by simp, rfl, rfl⟩)
          exact Or.inl ⟨RY.wanted_no rfl, Or.inl ⟨.bool false, X, by simp [execOp, go_sem, e31], Below.refl _ _, rfl⟩⟩
        | 12, ho =>
          injection ho with ho; subst ho
          have gd := hd 11 _ 32 rfl rfl ⟨⟨11, .guard⟩, by simp, rfl, rfl⟩
          have e4 : a.tmps[4]?.getD undef = .pointer (some ⟨b1, 0, none⟩) := (RY.ev_tmp a 4).trans ((hk 4 (by kernel_rfl)).trans rfl)
          exact Or.inl ⟨(RY.wanted_at rfl rfl rfl gd).trans rfl, Or.inl ⟨.pointer (some ⟨b1, 0, none⟩), X, by simp [execOp, go_sem, e4], Below.refl _ _, rfl⟩⟩
        | 13, ho =>
          injection ho with ho; subst ho
          have gd := hd 11 _ 32 rfl rfl ⟨⟨11, .guard⟩, by simp, rfl, rfl⟩
          have e33 : a.tmps[33]?.getD undef = _ := (RY.ev_tmp a 33).trans (hd 12 _ 33 rfl rfl ⟨⟨12, .data⟩, by simp, rfl, rfl⟩)
          exact Or.inl ⟨(RY.wanted_at rfl rfl rfl gd).trans rfl, Or.inl ⟨.string x.kind, X, by simp [execOp, go_sem, e33, z0], Below.refl _ _, rfl⟩⟩
        | 14, ho =>
          injection ho with ho; subst ho
          have gd := hd 11 _ 32 rfl rfl ⟨⟨11, .guard⟩, by simp, rfl, rfl⟩
          have e4 : a.tmps[4]?.getD undef = .pointer (some ⟨b1, 0, none⟩) := (RY.ev_tmp a 4).trans ((hk 4 (by kernel_rfl)).trans rfl)
          exact Or.inl ⟨(RY.wanted_at rfl rfl rfl gd).trans rfl, Or.inl ⟨.pointer (some ⟨b1, 2, none⟩), X, by simp [execOp, go_sem, e4], Below.refl _ _, rfl⟩⟩
        | 15, ho =>
          injection ho with ho; subst ho
          have gd := hd 11 _ 32 rfl rfl ⟨⟨11, .guard⟩, by simp, rfl, rfl⟩
          have e35 : a.tmps[35]?.getD undef = _ := (RY.ev_tmp a 35).trans (hd 14 _ 35 rfl rfl ⟨⟨14, .data⟩, by simp, rfl, rfl⟩)
          exact Or.inl ⟨(RY.wanted_at rfl rfl rfl gd).trans rfl, Or.inl ⟨.slice ax x.lines.length cx, X, by simp [execOp, go_sem, e35, z2], Below.refl _ _, rfl⟩⟩
        | 16, ho =>
          injection ho with ho; subst ho
          have gd := hd 11 _ 32 rfl rfl ⟨⟨11, .guard⟩, by simp, rfl, rfl⟩
          have e34 : a.tmps[34]?.getD undef = _ := (RY.ev_tmp a 34).trans (hd 13 _ 34 rfl rfl ⟨⟨13, .data⟩, by simp, rfl, rfl⟩)
          have e36 : a.tmps[36]?.getD undef = _ := (RY.ev_tmp a 36).trans (hd 15 _ 36 rfl rfl ⟨⟨15, .data⟩, by simp, rfl, rfl⟩)
          refine Or.inl ⟨(RY.wanted_at rfl rfl rfl gd).trans rfl, Or.inr ⟨30, #[.string x.kind, .slice ax x.lines.length cx], by simp [go_sem, e34, e36], (HCL.out X hX).mono ?_⟩⟩
          rintro e W' ⟨rfl, hb⟩
          exact ⟨_, rfl, hb, rfl⟩
        | 17, ho =>
          injection ho with ho; subst ho
          have gd := hd 11 _ 32 rfl rfl ⟨⟨11, .guard⟩, by simp, rfl, rfl⟩
          have e37 : a.tmps[37]?.getD undef = _ := (RY.ev_tmp a 37).trans (hd 16 _ 37 rfl rfl ⟨⟨16, .data⟩, by simp, rfl, rfl⟩)
          exact Or.inl ⟨(RY.wanted_at rfl rfl rfl gd).trans rfl, Or.inl ⟨.bool false, X, by simp [execOp, go_sem, e37], Below.refl _ _, rfl⟩⟩
        | 18, ho =>
          injection ho with ho; subst ho
          have e32 : a.tmps[32]?.getD undef = _ := (RY.ev_tmp a 32).trans (hd 11 _ 32 rfl rfl ⟨⟨11, .data⟩, by simp, rfl, rfl⟩)
          have e38 : a.tmps[38]?.getD undef = _ := (RY.ev_tmp a 38).trans (hd 17 _ 38 rfl rfl ⟨⟨17, .data⟩, by simp, rfl, rfl⟩)
          exact Or.inl ⟨RY.wanted_no rfl, Or.inl ⟨.bool false, X, by simp [execOp, go_sem, e32, e38], Below.refl _ _, rfl⟩⟩
        | 19, ho =>
          injection ho with ho; subst ho
          have e39 : a.tmps[39]?.getD undef = _ := (RY.ev_tmp a 39).trans (hd 18 _ 39 rfl rfl ⟨⟨18, .data⟩, by simp, rfl, rfl⟩)
          exact Or.inl ⟨RY.wanted_no rfl, Or.inl ⟨.bool false, X, by simp [execOp, go_sem, e39], Below.refl _ _, rfl⟩⟩
        | 20, ho =>
          injection ho with ho; subst ho
          have gd := hd 19 _ 40 rfl rfl ⟨⟨19, .guard⟩, by simp, rfl, rfl⟩
          have e3 : a.tmps[3]?.getD undef = .int .i64 (k : Int) := (RY.ev_tmp a 3).trans ((hk 3 (by kernel_rfl)).trans rfl)
          exact Or.inl ⟨(RY.wanted_at rfl rfl rfl gd).trans rfl, Or.inl ⟨.int .i64 (k : Int), X, by simp [execOp, go_sem, e3], Below.refl _ _, rfl⟩⟩
        | 21, ho =>
          injection ho with ho; subst ho
          have gd := hd 19 _ 40 rfl rfl ⟨⟨19, .guard⟩, by simp, rfl, rfl⟩
          have e41 : a.tmps[41]?.getD undef = _ := (RY.ev_tmp a 41).trans (hd 20 _ 41 rfl rfl ⟨⟨20, .data⟩, by simp, rfl, rfl⟩)
          exact Or.inl ⟨(RY.wanted_at rfl rfl rfl gd).trans rfl, Or.inl ⟨.bool false, X, by simp [execOp, go_sem, e41, hposN], Below.refl _ _, rfl⟩⟩
        | 22, ho =>
          injection ho with ho; subst ho
          have gd := hd 19 _ 40 rfl rfl ⟨⟨19, .guard⟩, by simp, rfl, rfl⟩
          have e42 : a.tmps[42]?.getD undef = _ := (RY.ev_tmp a 42).trans (hd 21 _ 42 rfl rfl ⟨⟨21, .data⟩, by simp, rfl, rfl⟩)
          exact Or.inl ⟨(RY.wanted_at rfl rfl rfl gd).trans rfl, Or.inl ⟨.bool false, X, by simp [execOp, go_sem, e42], Below.refl _ _, rfl⟩⟩
        | 23, ho =>
          injection ho with ho; subst ho
          have gd := hd 22 _ 43 rfl rfl ⟨⟨22, .guard⟩, by simp, rfl, rfl⟩
          exact Or.inr ⟨(RY.wanted_at rfl rfl rfl gd).trans rfl, rfl⟩
        | 24, ho =>
          injection ho with ho; subst ho
          have gd := hd 22 _ 43 rfl rfl ⟨⟨22, .guard⟩, by simp, rfl, rfl⟩
          exact Or.inr ⟨(RY.wanted_at rfl rfl rfl gd).trans rfl, rfl⟩
        | 25, ho =>
          injection ho with ho; subst ho
          have gd := hd 22 _ 43 rfl rfl ⟨⟨22, .guard⟩, by simp, rfl, rfl⟩
          exact Or.inr ⟨(RY.wanted_at rfl rfl rfl gd).trans rfl, rfl⟩
        | 26, ho =>
          injection ho with ho; subst ho
          have gd := hd 22 _ 43 rfl rfl ⟨⟨22, .guard⟩, by simp, rfl, rfl⟩
          exact Or.inr ⟨(RY.wanted_at rfl rfl rfl gd).trans rfl, rfl⟩
        | 27, ho =>
          injection ho with ho; subst ho
          have gd := hd 22 _ 43 rfl rfl ⟨⟨22, .guard⟩, by simp, rfl, rfl⟩
          exact Or.inr ⟨(RY.wanted_at rfl rfl rfl gd).trans rfl, rfl⟩
        | 28, ho =>
          injection ho with ho; subst ho
          have gd := hd 22 _ 43 rfl rfl ⟨⟨22, .guard⟩, by simp, rfl, rfl⟩
          exact Or.inr ⟨(RY.wanted_at rfl rfl rfl gd).trans rfl, rfl⟩
        | 29, ho =>
          injection ho with ho; subst ho
          have gd := hd 22 _ 43 rfl rfl ⟨⟨22, .guard⟩, by simp, rfl, rfl⟩
          exact Or.inr ⟨(RY.wanted_at rfl rfl rfl gd).trans rfl, rfl⟩
        | 30, ho =>
          injection ho with ho; subst ho
          have gd := hd 22 _ 43 rfl rfl ⟨⟨22, .guard⟩, by simp, rfl, rfl⟩
          exact Or.inr ⟨(RY.wanted_at rfl rfl rfl gd).trans rfl, rfl⟩
        | 31, ho =>
          injection ho with ho; subst ho
          have gd := hd 22 _ 43 rfl rfl ⟨⟨22, .guard⟩, by simp, rfl, rfl⟩
          exact Or.inr ⟨(RY.wanted_at rfl rfl rfl gd).trans rfl, rfl⟩
        | 32, ho =>
          injection ho with ho; subst ho
          have gd := hd 19 _ 40 rfl rfl ⟨⟨19, .guard⟩, by simp, rfl, rfl⟩
          have e43 : a.tmps[43]?.getD undef = _ := (RY.ev_tmp a 43).trans (hd 22 _ 43 rfl rfl ⟨⟨22, .data⟩, by simp, rfl, rfl⟩)
          have e52 : a.tmps[52]?.getD undef = _ := (RY.ev_tmp a 52).trans (hd 31 _ 52 rfl rfl ⟨⟨31, .data⟩, by simp, rfl, rfl⟩)
          exact Or.inl ⟨(RY.wanted_at rfl rfl rfl gd).trans rfl, Or.inl ⟨.bool false, X, by simp [execOp, go_sem, e43, e52], Below.refl _ _, rfl⟩⟩
        | 33, ho =>
          injection ho with ho; subst ho
          have e40 : a.tmps[40]?.getD undef = _ := (RY.ev_tmp a 40).trans (hd 19 _ 40 rfl rfl ⟨⟨19, .data⟩, by simp, rfl, rfl⟩)
          have e53 : a.tmps[53]?.getD undef = _ := (RY.ev_tmp a 53).trans (hd 32 _ 53 rfl rfl ⟨⟨32, .data⟩, by simp, rfl, rfl⟩)
          exact Or.inl ⟨RY.wanted_no rfl, Or.inl ⟨.bool false, X, by simp [execOp, go_sem, e40, e53], Below.refl _ _, rfl⟩⟩
        | n + 34, ho => simp at ho
      intro X vs hX hvs
      have q54 : vs 54 = _ := hvs 33 _ 54 rfl rfl
      simp only [RY.putAll, Act.put, List.setIfInBounds_toArray, List.set_cons_zero, List.set_cons_succ]
      rw [q54]
      generalize vs 21 = s21
      generalize vs 22 = s22
      generalize vs 23 = s23
      generalize vs 24 = s24
      generalize vs 25 = s25
      generalize vs 26 = s26
      generalize vs 27 = s27
      generalize vs 28 = s28
      generalize vs 29 = s29
      generalize vs 30 = s30
      generalize vs 31 = s31
      generalize vs 32 = s32
      generalize vs 33 = s33
      generalize vs 34 = s34
      generalize vs 35 = s35
      generalize vs 36 = s36
      generalize vs 37 = s37
      generalize vs 38 = s38
      generalize vs 39 = s39
      generalize vs 40 = s40
      generalize vs 41 = s41
      generalize vs 42 = s42
      generalize vs 43 = s43
      generalize vs 44 = s44
      generalize vs 45 = s45
      generalize vs 46 = s46
      generalize vs 47 = s47
      generalize vs 48 = s48
      generalize vs 49 = s49
      generalize vs 50 = s50
      generalize vs 51 = s51
      generalize vs 52 = s52
      generalize vs 53 = s53
      clear hvs q54
      clear hposN hm0
      have HNX := uh (Pl.rall_step HI.out (by rw [HOK.out]; simp))
      replace HWQ := uh (blw_trans HWQ.out hX)
      replace HB0 := uh (HB0.out.later hX)
      clear hX
      go_wp2
      go_roundw
      case rel => exact ⟨k + 1, by omega, by go_num, HWQ.out, HB0.out, HNX.out⟩
      case measure => simp [intOf]; omega
    obtain ⟨ay, cy, hgy⟩ := HOP.out (k - 1) (by omega)
    have hd0 : decide (k = 0) = false := by simpa using hz0
    rw [hd0] at HOK
    obtain ⟨y, hy⟩ : ∃ y, y = s.getD (k - 1) Pl.blNo := ⟨_, rfl⟩
    rw [← hy] at hgy HOK
    have HGY := uh hgy
    have HCAa := uh (fun X => l39AheadS y x (.slice ay y.lines.length cy) (.slice ax x.lines.length cx) X)
    obtain ⟨b, hb⟩ : ∃ b, b = Pl.ahead y x := ⟨_, rfl⟩
    rw [← hb] at HCAa HOK
    have HCA : Hid (∀ X, Calls Try.prog 31 #[.agg #[.string y.kind, .string y.name, .slice ay y.lines.length cy], .agg #[.string x.kind, .string x.name, .slice ax x.lines.length cx]] X fun e w' => e = .returned (.bool b) ∧ Below X.heap.size X w') := HCAa.out
    have hposN : 0 < k := by omega
    have hkm : IntKind.i64.wrap ((k : Int) - 1) = (k : Int) - 1 := IntWalk.i64_in _ ⟨by omega, by omega⟩
    have hm1 : (1 : Int) ≤ (k : Int) := by omega
    have hmn : (k : Int) - 1 < (n : Int) := by omega
    have hmt : ((k : Int) - 1).toNat = k - 1 := by omega
    clear hgy hy hb HCAa hd0 hz0
    refine RY.region_pastG wq (Below.refl _ _) (VSe x y ax ay cx cy p o n vc k m b0 b1 b) (VSe_mono _ _ _ _ _ _ _ _ _ _ _ _ _ _ _) (by kernel_rfl) (by kernel_rfl) (by kernel_rfl) (by kernel_rfl) ?_ ?_
    · intro i o' ho a X hX hk hd
      have z0 := (HBX.out.later hX).get 0 _ rfl
      have z1 := (HBX.out.later hX).get 1 _ rfl
      have z2 := (HBX.out.later hX).get 2 _ rfl
      have rx := (HBX.out.later hX).at_
      have zb := (HB0.out.later hX).get 0 _ rfl
      have ry := rA_later HGY.out HP.out hX
      match i, ho with
      | 0, ho =>
        injection ho with ho; subst ho
        have e4 : a.tmps[4]?.getD undef = .pointer (some ⟨b1, 0, none⟩) := (RY.ev_tmp a 4).trans ((hk 4 (by kernel_rfl)).trans rfl)
        exact Or.inl ⟨RY.wanted_no rfl, Or.inl ⟨.pointer (some ⟨b1, 0, none⟩), X, by simp [execOp, go_sem, e4], Below.refl _ _, rfl⟩⟩
      | 1, ho =>
        injection ho with ho; subst ho
        have e21 : a.tmps[21]?.getD undef = _ := (RY.ev_tmp a 21).trans (hd 0 _ 21 rfl rfl ⟨⟨0, .data⟩, by simp, rfl, rfl⟩)
        exact Or.inl ⟨RY.wanted_no rfl, Or.inl ⟨.string x.kind, X, by simp [execOp, go_sem, e21, z0], Below.refl _ _, rfl⟩⟩
      | 2, ho =>
        injection ho with ho; subst ho
        have e22 : a.tmps[22]?.getD undef = _ := (RY.ev_tmp a 22).trans (hd 1 _ 22 rfl rfl ⟨⟨1, .data⟩, by simp, rfl, rfl⟩)
        refine Or.inl ⟨RY.wanted_no rfl, Or.inr ⟨28, #[.string x.kind], by simp [go_sem, e22], (HCS.out X).mono ?_⟩⟩
        rintro e W' ⟨v, F, rfl, hr, _, _, hb⟩
        obtain ⟨a1, c1, hv⟩ := hr.raw.len0
        exact ⟨_, rfl, hb, a1, c1, by rw [HM.out]; exact hv⟩
      | 3, ho =>
        injection ho with ho; subst ho
        obtain ⟨a1, c1, e230⟩ := hd 2 _ 23 rfl rfl ⟨⟨2, .data⟩, by simp, rfl, rfl⟩
        have e23 := (RY.ev_tmp a 23).trans e230
        exact Or.inl ⟨RY.wanted_no rfl, Or.inl ⟨.int .i64 (m : Int), X, by simp [go_sem, e23], Below.refl _ _, rfl⟩⟩
      | 4, ho =>
        injection ho with ho; subst ho
        have e24 : a.tmps[24]?.getD undef = _ := (RY.ev_tmp a 24).trans (hd 3 _ 24 rfl rfl ⟨⟨3, .data⟩, by simp, rfl, rfl⟩)
        exact Or.inl ⟨RY.wanted_no rfl, Or.inl ⟨.bool false, X, by simp [execOp, go_sem, e24, hm0], Below.refl _ _, rfl⟩⟩
      | 5, ho =>
        injection ho with ho; subst ho
        have e25 : a.tmps[25]?.getD undef = _ := (RY.ev_tmp a 25).trans (hd 4 _ 25 rfl rfl ⟨⟨4, .data⟩, by simp, rfl, rfl⟩)
        exact Or.inl ⟨RY.wanted_no rfl, Or.inl ⟨.bool false, X, by simp [execOp, go_sem, e25], Below.refl _ _, rfl⟩⟩
      | 6, ho =>
        injection ho with ho; subst ho
        have gd := hd 5 _ 26 rfl rfl ⟨⟨5, .guard⟩, by simp, rfl, rfl⟩
        have e4 : a.tmps[4]?.getD undef = .pointer (some ⟨b1, 0, none⟩) := (RY.ev_tmp a 4).trans ((hk 4 (by kernel_rfl)).trans rfl)
        exact Or.inl ⟨(RY.wanted_at rfl rfl rfl gd).trans rfl, Or.inl ⟨.pointer (some ⟨b1, 1, none⟩), X, by simp [execOp, go_sem, e4], Below.refl _ _, rfl⟩⟩
      | 7, ho =>
        injection ho with ho; subst ho
        have gd := hd 5 _ 26 rfl rfl ⟨⟨5, .guard⟩, by simp, rfl, rfl⟩
        have e27 : a.tmps[27]?.getD undef = _ := (RY.ev_tmp a 27).trans (hd 6 _ 27 rfl rfl ⟨⟨6, .data⟩, by simp, rfl, rfl⟩)
        exact Or.inl ⟨(RY.wanted_at rfl rfl rfl gd).trans rfl, Or.inl ⟨.string x.name, X, by simp [execOp, go_sem, e27, z1], Below.refl _ _, rfl⟩⟩
      | 8, ho =>
        injection ho with ho; subst ho
        have gd := hd 5 _ 26 rfl rfl ⟨⟨5, .guard⟩, by simp, rfl, rfl⟩
        have e28 : a.tmps[28]?.getD undef = _ := (RY.ev_tmp a 28).trans (hd 7 _ 28 rfl rfl ⟨⟨7, .data⟩, by simp, rfl, rfl⟩)
        refine Or.inl ⟨(RY.wanted_at rfl rfl rfl gd).trans rfl, Or.inr ⟨29, #[.string x.name], by simp [go_sem, e28], (HCN.out X).mono ?_⟩⟩
        rintro e W' ⟨rfl, rfl⟩
        exact ⟨_, rfl, Below.refl _ _, rfl⟩
      | 9, ho =>
        injection ho with ho; subst ho
        have gd := hd 5 _ 26 rfl rfl ⟨⟨5, .guard⟩, by simp, rfl, rfl⟩
        have e29 : a.tmps[29]?.getD undef = _ := (RY.ev_tmp a 29).trans (hd 8 _ 29 rfl rfl ⟨⟨8, .data⟩, by simp, rfl, rfl⟩)
        exact Or.inl ⟨(RY.wanted_at rfl rfl rfl gd).trans rfl, Or.inl ⟨.bool false, X, by simp [execOp, go_sem, e29], Below.refl _ _, rfl⟩⟩
      | 10, ho =>
        injection ho with ho; subst ho
        have e26 : a.tmps[26]?.getD undef = _ := (RY.ev_tmp a 26).trans (hd 5 _ 26 rfl rfl ⟨⟨5, .data⟩, by simp, rfl, rfl⟩)
        have e30 : a.tmps[30]?.getD undef = _ := (RY.ev_tmp a 30).trans (hd 9 _ 30 rfl rfl ⟨⟨9, .data⟩, by simp, rfl, rfl⟩)
        exact Or.inl ⟨RY.wanted_no rfl, Or.inl ⟨.bool false, X, by simp [execOp, go_sem, e26, e30], Below.refl _ _, rfl⟩⟩
      | 11, ho =>
        injection ho with ho; subst ho
        have e31 : a.tmps[31]?.getD undef = _ := (RY.ev_tmp a 31).trans (hd 10 _ 31 rfl rfl ⟨⟨10, .data⟩, by simp, rfl, rfl⟩)
        exact Or.inl ⟨RY.wanted_no rfl, Or.inl ⟨.bool false, X, by simp [execOp, go_sem, e31], Below.refl _ _, rfl⟩⟩
      | 12, ho =>
        injection ho with ho; subst ho
        have gd := hd 11 _ 32 rfl rfl ⟨⟨11, .guard⟩, by simp, rfl, rfl⟩
        have e4 : a.tmps[4]?.getD undef = .pointer (some ⟨b1, 0, none⟩) := (RY.ev_tmp a 4).trans ((hk 4 (by kernel_rfl)).trans rfl)
        exact Or.inl ⟨(RY.wanted_at rfl rfl rfl gd).trans rfl, Or.inl ⟨.pointer (some ⟨b1, 0, none⟩), X, by simp [execOp, go_sem, e4], Below.refl _ _, rfl⟩⟩
      | 13, ho =>
        injection ho with ho; subst ho
        have gd := hd 11 _ 32 rfl rfl ⟨⟨11, .guard⟩, by simp, rfl, rfl⟩
        have e33 : a.tmps[33]?.getD undef = _ := (RY.ev_tmp a 33).trans (hd 12 _ 33 rfl rfl ⟨⟨12, .data⟩, by simp, rfl, rfl⟩)
        exact Or.inl ⟨(RY.wanted_at rfl rfl rfl gd).trans rfl, Or.inl ⟨.string x.kind, X, by simp [execOp, go_sem, e33, z0], Below.refl _ _, rfl⟩⟩
      | 14, ho =>
        injection ho with ho; subst ho
        have gd := hd 11 _ 32 rfl rfl ⟨⟨11, .guard⟩, by simp, rfl, rfl⟩
        have e4 : a.tmps[4]?.getD undef = .pointer (some ⟨b1, 0, none⟩) := (RY.ev_tmp a 4).trans ((hk 4 (by kernel_rfl)).trans rfl)
        exact Or.inl ⟨(RY.wanted_at rfl rfl rfl gd).trans rfl, Or.inl ⟨.pointer (some ⟨b1, 2, none⟩), X, by simp [execOp, go_sem, e4], Below.refl _ _, rfl⟩⟩
      | 15, ho =>
        injection ho with ho; subst ho
        have gd := hd 11 _ 32 rfl rfl ⟨⟨11, .guard⟩, by simp, rfl, rfl⟩
        have e35 : a.tmps[35]?.getD undef = _ := (RY.ev_tmp a 35).trans (hd 14 _ 35 rfl rfl ⟨⟨14, .data⟩, by simp, rfl, rfl⟩)
        exact Or.inl ⟨(RY.wanted_at rfl rfl rfl gd).trans rfl, Or.inl ⟨.slice ax x.lines.length cx, X, by simp [execOp, go_sem, e35, z2], Below.refl _ _, rfl⟩⟩
      | 16, ho =>
        injection ho with ho; subst ho
        have gd := hd 11 _ 32 rfl rfl ⟨⟨11, .guard⟩, by simp, rfl, rfl⟩
        have e34 : a.tmps[34]?.getD undef = _ := (RY.ev_tmp a 34).trans (hd 13 _ 34 rfl rfl ⟨⟨13, .data⟩, by simp, rfl, rfl⟩)
        have e36 : a.tmps[36]?.getD undef = _ := (RY.ev_tmp a 36).trans (hd 15 _ 36 rfl rfl ⟨⟨15, .data⟩, by simp, rfl, rfl⟩)
        refine Or.inl ⟨(RY.wanted_at rfl rfl rfl gd).trans rfl, Or.inr ⟨30, #[.string x.kind, .slice ax x.lines.length cx], by simp [go_sem, e34, e36], (HCL.out X hX).mono ?_⟩⟩
        rintro e W' ⟨rfl, hb⟩
        exact ⟨_, rfl, hb, rfl⟩
      | 17, ho =>
        injection ho with ho; subst ho
        have gd := hd 11 _ 32 rfl rfl ⟨⟨11, .guard⟩, by simp, rfl, rfl⟩
        have e37 : a.tmps[37]?.getD undef = _ := (RY.ev_tmp a 37).trans (hd 16 _ 37 rfl rfl ⟨⟨16, .data⟩, by simp, rfl, rfl⟩)
        exact Or.inl ⟨(RY.wanted_at rfl rfl rfl gd).trans rfl, Or.inl ⟨.bool false, X, by simp [execOp, go_sem, e37], Below.refl _ _, rfl⟩⟩
      | 18, ho =>
        injection ho with ho; subst ho
        have e32 : a.tmps[32]?.getD undef = _ := (RY.ev_tmp a 32).trans (hd 11 _ 32 rfl rfl ⟨⟨11, .data⟩, by simp, rfl, rfl⟩)
        have e38 : a.tmps[38]?.getD undef = _ := (RY.ev_tmp a 38).trans (hd 17 _ 38 rfl rfl ⟨⟨17, .data⟩, by simp, rfl, rfl⟩)
        exact Or.inl ⟨RY.wanted_no rfl, Or.inl ⟨.bool false, X, by simp [execOp, go_sem, e32, e38], Below.refl _ _, rfl⟩⟩
      | 19, ho =>
        injection ho with ho; subst ho
        have e39 : a.tmps[39]?.getD undef = _ := (RY.ev_tmp a 39).trans (hd 18 _ 39 rfl rfl ⟨⟨18, .data⟩, by simp, rfl, rfl⟩)
        exact Or.inl ⟨RY.wanted_no rfl, Or.inl ⟨.bool false, X, by simp [execOp, go_sem, e39], Below.refl _ _, rfl⟩⟩
      | 20, ho =>
        injection ho with ho; subst ho
        have gd := hd 19 _ 40 rfl rfl ⟨⟨19, .guard⟩, by simp, rfl, rfl⟩
        have e3 : a.tmps[3]?.getD undef = .int .i64 (k : Int) := (RY.ev_tmp a 3).trans ((hk 3 (by kernel_rfl)).trans rfl)
        exact Or.inl ⟨(RY.wanted_at rfl rfl rfl gd).trans rfl, Or.inl ⟨.int .i64 (k : Int), X, by simp [execOp, go_sem, e3], Below.refl _ _, rfl⟩⟩
      | 21, ho =>
        injection ho with ho; subst ho
        have gd := hd 19 _ 40 rfl rfl ⟨⟨19, .guard⟩, by simp, rfl, rfl⟩
        have e41 : a.tmps[41]?.getD undef = _ := (RY.ev_tmp a 41).trans (hd 20 _ 41 rfl rfl ⟨⟨20, .data⟩, by simp, rfl, rfl⟩)
        exact Or.inl ⟨(RY.wanted_at rfl rfl rfl gd).trans rfl, Or.inl ⟨.bool true, X, by simp [execOp, go_sem, e41, hposN], Below.refl _ _, rfl⟩⟩
      | 22, ho =>
        injection ho with ho; subst ho
        have gd := hd 19 _ 40 rfl rfl ⟨⟨19, .guard⟩, by simp, rfl, rfl⟩
        have e42 : a.tmps[42]?.getD undef = _ := (RY.ev_tmp a 42).trans (hd 21 _ 42 rfl rfl ⟨⟨21, .data⟩, by simp, rfl, rfl⟩)
        exact Or.inl ⟨(RY.wanted_at rfl rfl rfl gd).trans rfl, Or.inl ⟨.bool true, X, by simp [execOp, go_sem, e42], Below.refl _ _, rfl⟩⟩
      | 23, ho =>
        injection ho with ho; subst ho
        have gd := hd 22 _ 43 rfl rfl ⟨⟨22, .guard⟩, by simp, rfl, rfl⟩
        have e1 : a.tmps[1]?.getD undef = .pointer (some ⟨b0, 0, none⟩) := (RY.ev_tmp a 1).trans ((hk 1 (by kernel_rfl)).trans rfl)
        exact Or.inl ⟨(RY.wanted_at rfl rfl rfl gd).trans rfl, Or.inl ⟨.pointer (some ⟨b0, 0, none⟩), X, by simp [execOp, go_sem, e1], Below.refl _ _, rfl⟩⟩
      | 24, ho =>
        injection ho with ho; subst ho
        have gd := hd 22 _ 43 rfl rfl ⟨⟨22, .guard⟩, by simp, rfl, rfl⟩
        have e44 : a.tmps[44]?.getD undef = _ := (RY.ev_tmp a 44).trans (hd 23 _ 44 rfl rfl ⟨⟨23, .data⟩, by simp, rfl, rfl⟩)
        exact Or.inl ⟨(RY.wanted_at rfl rfl rfl gd).trans rfl, Or.inl ⟨.slice (some ⟨p, o, none⟩) n vc, X, by simp [execOp, go_sem, e44, zb], Below.refl _ _, rfl⟩⟩
      | 25, ho =>
        injection ho with ho; subst ho
        have gd := hd 22 _ 43 rfl rfl ⟨⟨22, .guard⟩, by simp, rfl, rfl⟩
        have e3 : a.tmps[3]?.getD undef = .int .i64 (k : Int) := (RY.ev_tmp a 3).trans ((hk 3 (by kernel_rfl)).trans rfl)
        exact Or.inl ⟨(RY.wanted_at rfl rfl rfl gd).trans rfl, Or.inl ⟨.int .i64 (k : Int), X, by simp [execOp, go_sem, e3], Below.refl _ _, rfl⟩⟩
      | 26, ho =>
        injection ho with ho; subst ho
        have gd := hd 22 _ 43 rfl rfl ⟨⟨22, .guard⟩, by simp, rfl, rfl⟩
        have e46 : a.tmps[46]?.getD undef = _ := (RY.ev_tmp a 46).trans (hd 25 _ 46 rfl rfl ⟨⟨25, .data⟩, by simp, rfl, rfl⟩)
        exact Or.inl ⟨(RY.wanted_at rfl rfl rfl gd).trans rfl, Or.inl ⟨.int .i64 ((k : Int) - 1), X, by simp [execOp, go_sem, e46, hkm], Below.refl _ _, rfl⟩⟩
      | 27, ho =>
        injection ho with ho; subst ho
        have gd := hd 22 _ 43 rfl rfl ⟨⟨22, .guard⟩, by simp, rfl, rfl⟩
        have e45 : a.tmps[45]?.getD undef = _ := (RY.ev_tmp a 45).trans (hd 24 _ 45 rfl rfl ⟨⟨24, .data⟩, by simp, rfl, rfl⟩)
        have e47 : a.tmps[47]?.getD undef = _ := (RY.ev_tmp a 47).trans (hd 26 _ 47 rfl rfl ⟨⟨26, .data⟩, by simp, rfl, rfl⟩)
        exact Or.inl ⟨(RY.wanted_at rfl rfl rfl gd).trans rfl, Or.inl ⟨.pointer (some ⟨p, o + (k - 1) * 3, none⟩), X, by simp [execOp, go_sem, e45, e47, hm1, hmn, hmt], Below.refl _ _, rfl⟩⟩
      | 28, ho =>
        injection ho with ho; subst ho
        have gd := hd 22 _ 43 rfl rfl ⟨⟨22, .guard⟩, by simp, rfl, rfl⟩
        have e48 : a.tmps[48]?.getD undef = _ := (RY.ev_tmp a 48).trans (hd 27 _ 48 rfl rfl ⟨⟨27, .data⟩, by simp, rfl, rfl⟩)
        exact Or.inl ⟨(RY.wanted_at rfl rfl rfl gd).trans rfl, Or.inl ⟨.agg #[.string y.kind, .string y.name, .slice ay y.lines.length cy], X, exec_load_mid 42 _ rfl p (o + (k - 1) * 3) ((RY.ev_tmp a 48).symm.trans e48) [.string y.kind, .string y.name, .slice ay y.lines.length cy] _ ry Try.underlying42 rfl (by kernel_rfl), Below.refl _ _, rfl⟩⟩
      | 29, ho =>
        injection ho with ho; subst ho
        have gd := hd 22 _ 43 rfl rfl ⟨⟨22, .guard⟩, by simp, rfl, rfl⟩
        have e4 : a.tmps[4]?.getD undef = .pointer (some ⟨b1, 0, none⟩) := (RY.ev_tmp a 4).trans ((hk 4 (by kernel_rfl)).trans rfl)
        exact Or.inl ⟨(RY.wanted_at rfl rfl rfl gd).trans rfl, Or.inl ⟨.agg #[.string x.kind, .string x.name, .slice ax x.lines.length cx], X, exec_load_mid 42 _ rfl b1 0 ((RY.ev_tmp a 4).symm.trans e4) [.string x.kind, .string x.name, .slice ax x.lines.length cx] _ rx Try.underlying42 rfl (by kernel_rfl), Below.refl _ _, rfl⟩⟩
      | 30, ho =>
        injection ho with ho; subst ho
        have gd := hd 22 _ 43 rfl rfl ⟨⟨22, .guard⟩, by simp, rfl, rfl⟩
        have e49 : a.tmps[49]?.getD undef = _ := (RY.ev_tmp a 49).trans (hd 28 _ 49 rfl rfl ⟨⟨28, .data⟩, by simp, rfl, rfl⟩)
        have e50 : a.tmps[50]?.getD undef = _ := (RY.ev_tmp a 50).trans (hd 29 _ 50 rfl rfl ⟨⟨29, .data⟩, by simp, rfl, rfl⟩)
        refine Or.inl ⟨(RY.wanted_at rfl rfl rfl gd).trans rfl, Or.inr ⟨31, #[.agg #[.string y.kind, .string y.name, .slice ay y.lines.length cy], .agg #[.string x.kind, .string x.name, .slice ax x.lines.length cx]], by simp [go_sem, e49, e50], (HCA.out X).mono ?_⟩⟩
        rintro e W' ⟨rfl, hb⟩
        exact ⟨_, rfl, hb, rfl⟩
      | 31, ho =>
        injection ho with ho; subst ho
        have gd := hd 22 _ 43 rfl rfl ⟨⟨22, .guard⟩, by simp, rfl, rfl⟩
        have e51 : a.tmps[51]?.getD undef = _ := (RY.ev_tmp a 51).trans (hd 30 _ 51 rfl rfl ⟨⟨30, .data⟩, by simp, rfl, rfl⟩)
        exact Or.inl ⟨(RY.wanted_at rfl rfl rfl gd).trans rfl, Or.inl ⟨.bool (!b), X, by simp [execOp, go_sem, e51], Below.refl _ _, rfl⟩⟩
      | 32, ho =>
        injection ho with ho; subst ho
        have gd := hd 19 _ 40 rfl rfl ⟨⟨19, .guard⟩, by simp, rfl, rfl⟩
        have e43 : a.tmps[43]?.getD undef = _ := (RY.ev_tmp a 43).trans (hd 22 _ 43 rfl rfl ⟨⟨22, .data⟩, by simp, rfl, rfl⟩)
        have e52 : a.tmps[52]?.getD undef = _ := (RY.ev_tmp a 52).trans (hd 31 _ 52 rfl rfl ⟨⟨31, .data⟩, by simp, rfl, rfl⟩)
        exact Or.inl ⟨(RY.wanted_at rfl rfl rfl gd).trans rfl, Or.inl ⟨.bool (!b), X, by simp [execOp, go_sem, e43, e52], Below.refl _ _, rfl⟩⟩
      | 33, ho =>
        injection ho with ho; subst ho
        have e40 : a.tmps[40]?.getD undef = _ := (RY.ev_tmp a 40).trans (hd 19 _ 40 rfl rfl ⟨⟨19, .data⟩, by simp, rfl, rfl⟩)
        have e53 : a.tmps[53]?.getD undef = _ := (RY.ev_tmp a 53).trans (hd 32 _ 53 rfl rfl ⟨⟨32, .data⟩, by simp, rfl, rfl⟩)
        exact Or.inl ⟨RY.wanted_no rfl, Or.inl ⟨.bool (!b), X, by simp [execOp, go_sem, e40, e53], Below.refl _ _, rfl⟩⟩
      | n + 34, ho => simp at ho
    intro X vs hX hvs
    have q54 : vs 54 = _ := hvs 33 _ 54 rfl rfl
    simp only [RY.putAll, Act.put, List.setIfInBounds_toArray, List.set_cons_zero, List.set_cons_succ]
    rw [q54]
    generalize vs 21 = s21
    generalize vs 22 = s22
    generalize vs 23 = s23
    generalize vs 24 = s24
    generalize vs 25 = s25
    generalize vs 26 = s26
    generalize vs 27 = s27
    generalize vs 28 = s28
    generalize vs 29 = s29
    generalize vs 30 = s30
    generalize vs 31 = s31
    generalize vs 32 = s32
    generalize vs 33 = s33
    generalize vs 34 = s34
    generalize vs 35 = s35
    generalize vs 36 = s36
    generalize vs 37 = s37
    generalize vs 38 = s38
    generalize vs 39 = s39
    generalize vs 40 = s40
    generalize vs 41 = s41
    generalize vs 42 = s42
    generalize vs 43 = s43
    generalize vs 44 = s44
    generalize vs 45 = s45
    generalize vs 46 = s46
    generalize vs 47 = s47
    generalize vs 48 = s48
    generalize vs 49 = s49
    generalize vs 50 = s50
    generalize vs 51 = s51
    generalize vs 52 = s52
    generalize vs 53 = s53
    clear hvs q54
    clear hposN hm0 hkm hm1 hmn hmt
    cases b
    · have HNF : Hid (Pl.validS s = false) := HNO.out (by rw [HOK.out]; rfl)
      go_wp2
      go_ret
      exact ⟨Pl.ret_bool HNF.out.symm, blw_trans HWQ.out hX⟩
    · skip
      have HNX := uh (Pl.rall_step HI.out (by rw [HOK.out]; simp))
      replace HWQ := uh (blw_trans HWQ.out hX)
      replace HB0 := uh (HB0.out.later hX)
      clear hX
      go_wp2
      go_roundw
      case rel => exact ⟨k + 1, by omega, by go_num, HWQ.out, HB0.out, HNX.out⟩
      case measure => simp [intOf]; omega

end Go.Proofs.Ytojcopamegmeeaa
