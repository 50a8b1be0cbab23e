/-
  Stewards: a book of one's own, by the specification.
-/
import Derived.Test.YtamhfnlogldpaaaAp
import Derived.Test.YtamhfnlogldpaaaStP
namespace Go.Proofs.Ytamhfnlogldpaaa
open Go.RowKit Go.Deep

theorem addN (b off i : Nat) : (Addr.add ⟨b, off, none⟩ i) = ⟨b, off + i, none⟩ := by
  unfold Addr.add; split <;> simp_all
theorem owns_is {w : World} {lo : Nat} {e : TypeId} {size : Nat} {v : Value} {n : Nat} {xs : List Value} (h : w.ownsRow lo e size v n xs) : ∃ a c, v = .slice a n c := by
  rcases h.2 with ⟨rfl, rfl⟩ | ⟨g, cap, cur, rfl, _⟩
  · exact ⟨_, _, rfl⟩
  · exact ⟨_, _, rfl⟩

def SvC (m : Sv) : List Value := [.string m.nm, .int .i64 m.ver, .bool m.gone, .int .i64 m.image, .int .i64 m.want, .int .i64 m.down, .int .i64 m.over, .int .i64 m.next, .int .i64 m.per, .int .i64 m.least, .int .i64 m.most, .int .i64 m.load, .int .i64 m.cool]
theorem SvC_len (m : Sv) : (SvC m).length = 13 := rfl
theorem SvC_one (l : List Sv) : ∀ u ∈ l.flatMap SvC, u.oneCell' = true := by
  intro u hu
  obtain ⟨m, _, hm⟩ := List.mem_flatMap.1 hu
  simp only [SvC, List.mem_cons, List.not_mem_nil, or_false] at hm
  rcases hm with rfl | rfl | rfl | rfl | rfl | rfl | rfl | rfl | rfl | rfl | rfl | rfl | rfl <;> rfl
theorem SvsV.news {w : World} {a : Option Addr} {ms : List Sv} (h : SvsV w a ms) : ∀ ad, a = some ad → ∀ j u, (ms.flatMap SvC)[j]? = some u → w.cell? (ad.add j) = some u := by
  intro ad ha j u hu
  by_cases h0 : ms.length = 0
  · have : ms = [] := List.eq_nil_of_length_eq_zero h0
    subst this
    simp at hu
  · obtain ⟨b, off, e, _, _⟩ := h.at_ 0 (by omega)
    rw [e] at ha
    injection ha with ha
    subst ha
    rw [addN]
    refine flat_get Sv.none SvC 13 SvC_len (fun j u => w.cell? ⟨b, j, none⟩ = some u) ms off (fun i hi k v hv => ?_) j u hu
    obtain ⟨b', off', e', _, hx⟩ := h.at_ i hi
    rw [e] at e'
    injection e' with e'
    injection e' with e1 e2 _
    subst e1 e2
    match k, hv with
    | 0, hv => injection hv with hv; subst hv; exact hx.c0
    | 1, hv => injection hv with hv; subst hv; exact hx.c1
    | 2, hv => injection hv with hv; subst hv; exact hx.c2
    | 3, hv => injection hv with hv; subst hv; exact hx.c3
    | 4, hv => injection hv with hv; subst hv; exact hx.c4
    | 5, hv => injection hv with hv; subst hv; exact hx.c5
    | 6, hv => injection hv with hv; subst hv; exact hx.c6
    | 7, hv => injection hv with hv; subst hv; exact hx.c7
    | 8, hv => injection hv with hv; subst hv; exact hx.c8
    | 9, hv => injection hv with hv; subst hv; exact hx.c9
    | 10, hv => injection hv with hv; subst hv; exact hx.c10
    | 11, hv => injection hv with hv; subst hv; exact hx.c11
    | 12, hv => injection hv with hv; subst hv; exact hx.c12
    | k + 13, hv => simp [SvC] at hv

theorem SvsV.nil {w : World} {a : Option Addr} {ms : List Sv} (h : SvsV w a ms) : a = none → ms.length = 0 := fun e => by
  by_cases h0 : ms.length = 0
  · exact h0
  · obtain ⟨b, off, e', _⟩ := h.at_ 0 (by omega)
    rw [e] at e'; cases e'
def CpC (m : Cp) : List Value := [.string m.svc, .int .i64 m.num, .int .i64 m.ver, .int .i64 m.image, .int .i64 m.state, .bool m.ending, .string m.berth]
theorem CpC_len (m : Cp) : (CpC m).length = 7 := rfl
theorem CpC_one (l : List Cp) : ∀ u ∈ l.flatMap CpC, u.oneCell' = true := by
  intro u hu
  obtain ⟨m, _, hm⟩ := List.mem_flatMap.1 hu
  simp only [CpC, List.mem_cons, List.not_mem_nil, or_false] at hm
  rcases hm with rfl | rfl | rfl | rfl | rfl | rfl | rfl <;> rfl
theorem CpsV.news {w : World} {a : Option Addr} {ms : List Cp} (h : CpsV w a ms) : ∀ ad, a = some ad → ∀ j u, (ms.flatMap CpC)[j]? = some u → w.cell? (ad.add j) = some u := by
  intro ad ha j u hu
  by_cases h0 : ms.length = 0
  · have : ms = [] := List.eq_nil_of_length_eq_zero h0
    subst this
    simp at hu
  · obtain ⟨b, off, e, _, _⟩ := h.at_ 0 (by omega)
    rw [e] at ha
    injection ha with ha
    subst ha
    rw [addN]
    refine flat_get Cp.none CpC 7 CpC_len (fun j u => w.cell? ⟨b, j, none⟩ = some u) ms off (fun i hi k v hv => ?_) j u hu
    obtain ⟨b', off', e', _, hx⟩ := h.at_ i hi
    rw [e] at e'
    injection e' with e'
    injection e' with e1 e2 _
    subst e1 e2
    match k, hv with
    | 0, hv => injection hv with hv; subst hv; exact hx.c0
    | 1, hv => injection hv with hv; subst hv; exact hx.c1
    | 2, hv => injection hv with hv; subst hv; exact hx.c2
    | 3, hv => injection hv with hv; subst hv; exact hx.c3
    | 4, hv => injection hv with hv; subst hv; exact hx.c4
    | 5, hv => injection hv with hv; subst hv; exact hx.c5
    | 6, hv => injection hv with hv; subst hv; exact hx.c6
    | k + 7, hv => simp [CpC] at hv

theorem CpsV.nil {w : World} {a : Option Addr} {ms : List Cp} (h : CpsV w a ms) : a = none → ms.length = 0 := fun e => by
  by_cases h0 : ms.length = 0
  · exact h0
  · obtain ⟨b, off, e', _⟩ := h.at_ 0 (by omega)
    rw [e] at e'; cases e'
def BtC (m : Bt) : List Value := [.string m.nm, .bool m.drain]
theorem BtC_len (m : Bt) : (BtC m).length = 2 := rfl
theorem BtC_one (l : List Bt) : ∀ u ∈ l.flatMap BtC, u.oneCell' = true := by
  intro u hu
  obtain ⟨m, _, hm⟩ := List.mem_flatMap.1 hu
  simp only [BtC, List.mem_cons, List.not_mem_nil, or_false] at hm
  rcases hm with rfl | rfl <;> rfl
theorem BtsV.news {w : World} {a : Option Addr} {ms : List Bt} (h : BtsV w a ms) : ∀ ad, a = some ad → ∀ j u, (ms.flatMap BtC)[j]? = some u → w.cell? (ad.add j) = some u := by
  intro ad ha j u hu
  by_cases h0 : ms.length = 0
  · have : ms = [] := List.eq_nil_of_length_eq_zero h0
    subst this
    simp at hu
  · obtain ⟨b, off, e, _, _⟩ := h.at_ 0 (by omega)
    rw [e] at ha
    injection ha with ha
    subst ha
    rw [addN]
    refine flat_get Bt.none BtC 2 BtC_len (fun j u => w.cell? ⟨b, j, none⟩ = some u) ms off (fun i hi k v hv => ?_) j u hu
    obtain ⟨b', off', e', _, hx⟩ := h.at_ i hi
    rw [e] at e'
    injection e' with e'
    injection e' with e1 e2 _
    subst e1 e2
    match k, hv with
    | 0, hv => injection hv with hv; subst hv; exact hx.c0
    | 1, hv => injection hv with hv; subst hv; exact hx.c1
    | k + 2, hv => simp [BtC] at hv

theorem BtsV.nil {w : World} {a : Option Addr} {ms : List Bt} (h : BtsV w a ms) : a = none → ms.length = 0 := fun e => by
  by_cases h0 : ms.length = 0
  · exact h0
  · obtain ⟨b, off, e', _⟩ := h.at_ 0 (by omega)
    rw [e] at e'; cases e'

def VBk (B : Nat) (K : SBk) (a0 a1 a2 : Option Addr) (c0 c1 c2 : Nat) (i : Nat) (u : Value) (W : World) : Prop :=
  match i with
  | 0 => u = .pointer (some ⟨B, 0, none⟩)
  | 1 => u = .int .i64 K.now
  | 2 => Emp W (B + 2) 46 u
  | 3 => u = .pointer (some ⟨B, 1, none⟩)
  | 4 => u = .slice a0 K.svcs.length c0
  | 5 => W.ownsRow (B + 2) 46 13 u K.svcs.length (K.svcs.flatMap SvC)
  | 6 => Emp W (B + 2) 63 u
  | 7 => u = .pointer (some ⟨B, 2, none⟩)
  | 8 => u = .slice a1 K.cps.length c1
  | 9 => W.ownsRow (B + 2) 63 7 u K.cps.length (K.cps.flatMap CpC)
  | 10 => Emp W (B + 2) 78 u
  | 11 => u = .pointer (some ⟨B, 3, none⟩)
  | 12 => u = .slice a2 K.bts.length c2
  | 13 => W.ownsRow (B + 2) 78 2 u K.bts.length (K.bts.flatMap BtC)
  | 14 => ∃ s0 s1 s2, u = .agg #[.int .i64 K.now, s0, s1, s2] ∧ W.ownsRow (B + 2) 46 13 s0 K.svcs.length (K.svcs.flatMap SvC) ∧ W.ownsRow (B + 2) 63 7 s1 K.cps.length (K.cps.flatMap CpC) ∧ W.ownsRow (B + 2) 78 2 s2 K.bts.length (K.bts.flatMap BtC)
  | _ => True

theorem VBk_mono (B : Nat) (K : SBk) (a0 a1 a2 : Option Addr) (c0 c1 c2 : Nat) : ∀ j u W W', Below W.heap.size W W' → VBk B K a0 a1 a2 c0 c1 c2 j u W → VBk B K a0 a1 a2 c0 c1 c2 j u W' := by
  intro j u W W' hb h
  match j, h with
  | 0, h => exact h
  | 1, h => exact h
  | 2, h => exact Emp.on h hb
  | 3, h => exact h
  | 4, h => exact h
  | 5, h => exact owns_on h hb
  | 6, h => exact Emp.on h hb
  | 7, h => exact h
  | 8, h => exact h
  | 9, h => exact owns_on h hb
  | 10, h => exact Emp.on h hb
  | 11, h => exact h
  | 12, h => exact h
  | 13, h => exact owns_on h hb
  | 14, h =>
    obtain ⟨s0, s1, s2, e, h0, h1, h2⟩ := h
    exact ⟨s0, s1, s2, e, owns_on h0 hb, owns_on h1 hb, owns_on h2 hb⟩
  | n + 15, _ => trivial
theorem VBk_sc (B : Nat) (K : SBk) (a0 a1 a2 : Option Addr) (c0 c1 c2 : Nat) : ∀ j u W o x, VBk B K a0 a1 a2 c0 c1 c2 j u W → VBk B K a0 a1 a2 c0 c1 c2 j u (W.setCell ⟨B + 1, o, none⟩ x) := by
  intro j u W o x h
  match j, h with
  | 0, h => exact h
  | 1, h => exact h
  | 2, h => exact Emp.sc h (by omega) o x
  | 3, h => exact h
  | 4, h => exact h
  | 5, h => exact owns_sc h (by omega) o x
  | 6, h => exact Emp.sc h (by omega) o x
  | 7, h => exact h
  | 8, h => exact h
  | 9, h => exact owns_sc h (by omega) o x
  | 10, h => exact Emp.sc h (by omega) o x
  | 11, h => exact h
  | 12, h => exact h
  | 13, h => exact owns_sc h (by omega) o x
  | 14, h =>
    obtain ⟨s0, s1, s2, e, h0, h1, h2⟩ := h
    exact ⟨s0, s1, s2, e, owns_sc h0 (by omega) o x, owns_sc h1 (by omega) o x, owns_sc h2 (by omega) o x⟩
  | n + 15, _ => trivial

theorem Try.infoBk : (Try.prog.info? 33).map (·.size) = some 4 := by kernel_rfl

theorem Try.infSv : (Try.prog.info? 46).map (fun i => (i.zero, i.size, i.bytes)) = some (some (.agg #[.string ByteArray.empty, .int .i64 0, .bool false, .int .i64 0, .int .i64 0, .int .i64 0, .int .i64 0, .int .i64 0, .int .i64 0, .int .i64 0, .int .i64 0, .int .i64 0, .int .i64 0]), 13, 112) := by kernel_rfl
theorem Try.undSv : Try.prog.underlying 29 = some (.slice 46) := by kernel_rfl
theorem Try.infCp : (Try.prog.info? 63).map (fun i => (i.zero, i.size, i.bytes)) = some (some (.agg #[.string ByteArray.empty, .int .i64 0, .int .i64 0, .int .i64 0, .int .i64 0, .bool false, .string ByteArray.empty]), 7, 72) := by kernel_rfl
theorem Try.undCp : Try.prog.underlying 30 = some (.slice 63) := by kernel_rfl
theorem Try.infBt : (Try.prog.info? 78).map (fun i => (i.zero, i.size, i.bytes)) = some (some (.agg #[.string ByteArray.empty, .bool false]), 2, 24) := by kernel_rfl
theorem Try.undBt : Try.prog.underlying 31 = some (.slice 78) := by kernel_rfl

end Go.Proofs.Ytamhfnlogldpaaa
