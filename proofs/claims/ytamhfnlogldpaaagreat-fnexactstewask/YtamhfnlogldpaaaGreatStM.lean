/-
  Stewards: a book of one's own, by the specification.
-/
import Derived.Deep.AppendSrc
import Derived.Laws.AppendOwn
import Derived.Test.YtamhfnlogldpaaaGreatPut
import Derived.Test.YtamhfnlogldpaaaGreatStP
namespace Go.Proofs.YtamhfnlogldpaaaGreat
open Go.RowKit Go.Deep

theorem app_new {P : Program} (base : Nat) (t ty e : TypeId) (size bytes : Nat) (z : Value) (ht : P.underlying t = some (.slice e)) (hinf : (P.info? e).map (fun i => (i.zero, i.size, i.bytes)) = some (some z, size, bytes)) (hzs : z.cells.size = size)
    (W : World) (g : Nat) (hg : W.heap[g]? = some (.cells #[] e (0, 0))) (hgb : base ≤ g) (a : Option Addr) (m c : Nat) (news : List Value) (hl : news.length = m * size)
    (hnews : ∀ ad, a = some ad → ∀ j u, news[j]? = some u → W.cell? (ad.add j) = some u) (hnone : a = none → m = 0) (h1 : ∀ u ∈ news, u.oneCell' = true) (hm : m ≤ 1048576) (hb : bytes ≤ 1000) (hbase : base ≤ W.heap.size) :
    ∃ v' W', (Builtin.append_ #[t, t] ty #[.slice (some ⟨g, 0, none⟩) 0 0, .slice a m c]).run P W = .ok v' W' ∧ W'.ownsRow base e size v' m news ∧ Below W.heap.size W W' := by
  obtain ⟨i, hi, ei⟩ := Option.map_eq_some_iff.1 hinf
  simp only [Prod.mk.injEq] at ei
  obtain ⟨hz, hs, hby⟩ := ei
  subst hs hby
  by_cases h0 : m = 0
  · subst h0
    obtain rfl : news = [] := List.eq_nil_of_length_eq_zero (by simpa using hl)
    have hsrc : Src P i.size t (.slice a 0 c) 0 [] W := by
      cases a with
      | none => exact Src.ofNil W ht c
      | some ad => exact Src.ofSlice W ht ad 0 c [] (by simp) (fun j u h => by simp at h) (fun u h => by cases h)
    have hr := run_append_room_src (P := P) W t t ty e i ht hi g 0 0 0 (.slice a 0 c) 0 [] hsrc (by omega) (fun j h => by simp at h) (fun j h => by simp at h)
    exact ⟨_, _, hr, ⟨by simp, .inr ⟨g, 0, #[], by simp, hgb, hg, by omega, by decide, by simp, by simp⟩⟩, Below.refl _ _⟩
  · obtain ⟨ad, rfl⟩ : ∃ ad, a = some ad := by
      cases a with
      | none => exact absurd (hnone rfl) h0
      | some ad => exact ⟨ad, rfl⟩
    have hmb : m * i.bytes ≤ 1048576 * 1000 := Nat.mul_le_mul hm hb
    have hr := run_append_grow (P := P) W t ty e i z ht hi hz ⟨g, 0, none⟩ 0 0 [] (by simp) (fun j v h => by simp at h) ad m c news hl (hnews ad rfl) (by omega) (by omega) (growslice_fits (by omega) (by rw [Nat.zero_add]; omega))
    rw [Nat.zero_add] at hr
    have hge := grownCap_ge W m 0 e
    refine ⟨_, _, hr, ⟨hl, .inr ⟨W.heap.size, _, _, rfl, hbase, heap_alloc_new W.drew _, hge, grownCap_le_maxLen W m 0 e (by unfold maxLen; omega), ?_, ?_⟩⟩, blw_alloc (Below.drew (Below.refl _ _)) _⟩
    · rw [Array.size_append, Array.size_append, size_zeroCells, hzs]
      simp only [List.size_toArray, List.length_nil, Nat.zero_add, hl]
      rw [← Nat.add_mul]
      congr 1
      omega
    · rw [← hl]
      simp

theorem flat_get {α : Type} (d : α) (f : α → List Value) (n : Nat) (hf : ∀ x, (f x).length = n) (Q : Nat → Value → Prop) : ∀ (l : List α) (o : Nat), (∀ i, i < l.length → ∀ k v, (f (l.getD i d))[k]? = some v → Q (o + i * n + k) v) → ∀ j u, (l.flatMap f)[j]? = some u → Q (o + j) u
  | [], _, _, j, u, hu => by simp at hu
  | x :: xs, o, h, j, u, hu => by
    rw [List.flatMap_cons] at hu
    by_cases hj : j < n
    · rw [List.getElem?_append_left (by rw [hf]; exact hj)] at hu
      have := h 0 (by simp) j u (by simpa using hu)
      simpa using this
    · rw [List.getElem?_append_right (by rw [hf]; omega), hf] at hu
      have := flat_get d f n hf Q xs (o + n) (fun i hi k v hv => by
        have := h (i + 1) (by simpa using hi) k v (by simpa using hv)
        rw [Nat.add_mul] at this
        have e : o + n + i * n + k = o + (i * n + 1 * n) + k := by omega
        rw [e]; exact this) (j - n) u hu
      have e : o + n + (j - n) = o + j := by omega
      rw [e] at this
      exact this
theorem flat_len {α : Type} (f : α → List Value) (n : Nat) (hf : ∀ x, (f x).length = n) : ∀ l : List α, (l.flatMap f).length = l.length * n
  | [] => by simp
  | x :: xs => by rw [List.flatMap_cons, List.length_append, hf, flat_len f n hf xs, List.length_cons, Nat.add_mul]; omega
theorem owns_on {w w' : World} {lo : Nat} {e : TypeId} {size : Nat} {v : Value} {n : Nat} {xs : List Value} (h : w.ownsRow lo e size v n xs) (hb : Below w.heap.size w w') : w'.ownsRow lo e size v n xs := by
  refine ⟨h.1, h.2.imp id ?_⟩
  rintro ⟨g, cap, cur, h1, h2, h3, h4⟩
  have hlt : g < w.heap.size := by
    rcases Nat.lt_or_ge g w.heap.size with q | q
    · exact q
    · rw [Array.getElem?_eq_none q] at h3; cases h3
  exact ⟨g, cap, cur, h1, h2, (hb.block g hlt).trans h3, h4⟩
theorem owns_sc {w : World} {lo p : Nat} {e : TypeId} {size : Nat} {v : Value} {n : Nat} {xs : List Value} (h : w.ownsRow lo e size v n xs) (hp : p < lo) (o : Nat) (x : Value) : (w.setCell ⟨p, o, none⟩ x).ownsRow lo e size v n xs := by
  refine ⟨h.1, h.2.imp id ?_⟩
  rintro ⟨g, cap, cur, h1, h2, h3, h4⟩
  exact ⟨g, cap, cur, h1, h2, (Below.heap_setCell w ⟨p, o, none⟩ x g (by show g ≠ p; omega)).trans h3, h4⟩

/-- An empty row of the region's own. -/
def Emp (w : World) (lo : Nat) (e : TypeId) (u : Value) : Prop := ∃ g, u = .slice (some ⟨g, 0, none⟩) 0 0 ∧ lo ≤ g ∧ w.heap[g]? = some (.cells #[] e (0, 0))
theorem Emp.on {w w' : World} {lo : Nat} {e : TypeId} {u : Value} (h : Emp w lo e u) (hb : Below w.heap.size w w') : Emp w' lo e u := by
  obtain ⟨g, h1, h2, h3⟩ := h
  have hlt : g < w.heap.size := by
    rcases Nat.lt_or_ge g w.heap.size with q | q
    · exact q
    · rw [Array.getElem?_eq_none q] at h3; cases h3
  exact ⟨g, h1, h2, (hb.block g hlt).trans h3⟩
theorem Emp.sc {w : World} {lo p : Nat} {e : TypeId} {u : Value} (h : Emp w lo e u) (hp : p < lo) (o : Nat) (x : Value) : Emp (w.setCell ⟨p, o, none⟩ x) lo e u := by
  obtain ⟨g, h1, h2, h3⟩ := h
  exact ⟨g, h1, h2, (Below.heap_setCell w ⟨p, o, none⟩ x g (by show g ≠ p; omega)).trans h3⟩

theorem exec_append {P : Program} {o : Oper} {a : Act} {W W' : World} {v x v' : Value} (s y : Operand) (t : TypeId) (hop : o.op = Op.call { callee := Callee.builtin Builtin.append, args := #[s, y], argTypes := #[t, t] }) (hs : a.eval s = v) (hx : a.eval y = x)
    (hrun : (Builtin.append_ #[t, t] o.type #[v, x]).run P W = .ok v' W') : (execOp a.eval o).run P W = .ok (.value v') W' := by
  simp [execOp, hop, resolve, invoke, builtin, hs, hx, hrun, Result.andThen]

end Go.Proofs.YtamhfnlogldpaaaGreat

namespace Go.Proofs.YtamhfnlogldpaaaGreat
open Go.RowKit Go.Deep

theorem addN (b off i : Nat) : (Addr.add ⟨b, off, none⟩ i) = ⟨b, off + i, none⟩ := by
  unfold Addr.add; split <;> simp_all
theorem owns_is {w : World} {lo : Nat} {e : TypeId} {size : Nat} {v : Value} {n : Nat} {xs : List Value} (h : w.ownsRow lo e size v n xs) : ∃ a c, v = .slice a n c := by
  rcases h.2 with ⟨rfl, rfl⟩ | ⟨g, cap, cur, rfl, _⟩
  · exact ⟨_, _, rfl⟩
  · exact ⟨_, _, rfl⟩

def SvC (m : Sv) : List Value := [.string m.nm, .int .i64 m.ver, .bool m.gone, .int .i64 m.image, .int .i64 m.want, .int .i64 m.down, .int .i64 m.over, .int .i64 m.next, .int .i64 m.per, .int .i64 m.least, .int .i64 m.most, .int .i64 m.load, .int .i64 m.cool]
theorem SvC_len (m : Sv) : (SvC m).length = 13 := rfl
theorem SvC_one (l : List Sv) : ∀ u ∈ l.flatMap SvC, u.oneCell' = true := by
  intro u hu
  obtain ⟨m, _, hm⟩ := List.mem_flatMap.1 hu
  simp only [SvC, List.mem_cons, List.not_mem_nil, or_false] at hm
  rcases hm with rfl | rfl | rfl | rfl | rfl | rfl | rfl | rfl | rfl | rfl | rfl | rfl | rfl <;> rfl
theorem SvsV.news {w : World} {a : Option Addr} {ms : List Sv} (h : SvsV w a ms) : ∀ ad, a = some ad → ∀ j u, (ms.flatMap SvC)[j]? = some u → w.cell? (ad.add j) = some u := by
  intro ad ha j u hu
  by_cases h0 : ms.length = 0
  · have : ms = [] := List.eq_nil_of_length_eq_zero h0
    subst this
    simp at hu
  · obtain ⟨b, off, e, _, _⟩ := h.at_ 0 (by omega)
    rw [e] at ha
    injection ha with ha
    subst ha
    rw [addN]
    refine flat_get Sv.none SvC 13 SvC_len (fun j u => w.cell? ⟨b, j, none⟩ = some u) ms off (fun i hi k v hv => ?_) j u hu
    obtain ⟨b', off', e', _, hx⟩ := h.at_ i hi
    rw [e] at e'
    injection e' with e'
    injection e' with e1 e2 _
    subst e1 e2
    match k, hv with
    | 0, hv => injection hv with hv; subst hv; exact hx.c0
    | 1, hv => injection hv with hv; subst hv; exact hx.c1
    | 2, hv => injection hv with hv; subst hv; exact hx.c2
    | 3, hv => injection hv with hv; subst hv; exact hx.c3
    | 4, hv => injection hv with hv; subst hv; exact hx.c4
    | 5, hv => injection hv with hv; subst hv; exact hx.c5
    | 6, hv => injection hv with hv; subst hv; exact hx.c6
    | 7, hv => injection hv with hv; subst hv; exact hx.c7
    | 8, hv => injection hv with hv; subst hv; exact hx.c8
    | 9, hv => injection hv with hv; subst hv; exact hx.c9
    | 10, hv => injection hv with hv; subst hv; exact hx.c10
    | 11, hv => injection hv with hv; subst hv; exact hx.c11
    | 12, hv => injection hv with hv; subst hv; exact hx.c12
    | k + 13, hv => simp [SvC] at hv

theorem SvsV.nil {w : World} {a : Option Addr} {ms : List Sv} (h : SvsV w a ms) : a = none → ms.length = 0 := fun e => by
  by_cases h0 : ms.length = 0
  · exact h0
  · obtain ⟨b, off, e', _⟩ := h.at_ 0 (by omega)
    rw [e] at e'; cases e'
def CpC (m : Cp) : List Value := [.string m.svc, .int .i64 m.num, .int .i64 m.ver, .int .i64 m.image, .int .i64 m.state, .bool m.ending, .string m.berth]
theorem CpC_len (m : Cp) : (CpC m).length = 7 := rfl
theorem CpC_one (l : List Cp) : ∀ u ∈ l.flatMap CpC, u.oneCell' = true := by
  intro u hu
  obtain ⟨m, _, hm⟩ := List.mem_flatMap.1 hu
  simp only [CpC, List.mem_cons, List.not_mem_nil, or_false] at hm
  rcases hm with rfl | rfl | rfl | rfl | rfl | rfl | rfl <;> rfl
theorem CpsV.news {w : World} {a : Option Addr} {ms : List Cp} (h : CpsV w a ms) : ∀ ad, a = some ad → ∀ j u, (ms.flatMap CpC)[j]? = some u → w.cell? (ad.add j) = some u := by
  intro ad ha j u hu
  by_cases h0 : ms.length = 0
  · have : ms = [] := List.eq_nil_of_length_eq_zero h0
    subst this
    simp at hu
  · obtain ⟨b, off, e, _, _⟩ := h.at_ 0 (by omega)
    rw [e] at ha
    injection ha with ha
    subst ha
    rw [addN]
    refine flat_get Cp.none CpC 7 CpC_len (fun j u => w.cell? ⟨b, j, none⟩ = some u) ms off (fun i hi k v hv => ?_) j u hu
    obtain ⟨b', off', e', _, hx⟩ := h.at_ i hi
    rw [e] at e'
    injection e' with e'
    injection e' with e1 e2 _
    subst e1 e2
    match k, hv with
    | 0, hv => injection hv with hv; subst hv; exact hx.c0
    | 1, hv => injection hv with hv; subst hv; exact hx.c1
    | 2, hv => injection hv with hv; subst hv; exact hx.c2
    | 3, hv => injection hv with hv; subst hv; exact hx.c3
    | 4, hv => injection hv with hv; subst hv; exact hx.c4
    | 5, hv => injection hv with hv; subst hv; exact hx.c5
    | 6, hv => injection hv with hv; subst hv; exact hx.c6
    | k + 7, hv => simp [CpC] at hv

theorem CpsV.nil {w : World} {a : Option Addr} {ms : List Cp} (h : CpsV w a ms) : a = none → ms.length = 0 := fun e => by
  by_cases h0 : ms.length = 0
  · exact h0
  · obtain ⟨b, off, e', _⟩ := h.at_ 0 (by omega)
    rw [e] at e'; cases e'
def BtC (m : Bt) : List Value := [.string m.nm, .bool m.drain]
theorem BtC_len (m : Bt) : (BtC m).length = 2 := rfl
theorem BtC_one (l : List Bt) : ∀ u ∈ l.flatMap BtC, u.oneCell' = true := by
  intro u hu
  obtain ⟨m, _, hm⟩ := List.mem_flatMap.1 hu
  simp only [BtC, List.mem_cons, List.not_mem_nil, or_false] at hm
  rcases hm with rfl | rfl <;> rfl
theorem BtsV.news {w : World} {a : Option Addr} {ms : List Bt} (h : BtsV w a ms) : ∀ ad, a = some ad → ∀ j u, (ms.flatMap BtC)[j]? = some u → w.cell? (ad.add j) = some u := by
  intro ad ha j u hu
  by_cases h0 : ms.length = 0
  · have : ms = [] := List.eq_nil_of_length_eq_zero h0
    subst this
    simp at hu
  · obtain ⟨b, off, e, _, _⟩ := h.at_ 0 (by omega)
    rw [e] at ha
    injection ha with ha
    subst ha
    rw [addN]
    refine flat_get Bt.none BtC 2 BtC_len (fun j u => w.cell? ⟨b, j, none⟩ = some u) ms off (fun i hi k v hv => ?_) j u hu
    obtain ⟨b', off', e', _, hx⟩ := h.at_ i hi
    rw [e] at e'
    injection e' with e'
    injection e' with e1 e2 _
    subst e1 e2
    match k, hv with
    | 0, hv => injection hv with hv; subst hv; exact hx.c0
    | 1, hv => injection hv with hv; subst hv; exact hx.c1
    | k + 2, hv => simp [BtC] at hv

theorem BtsV.nil {w : World} {a : Option Addr} {ms : List Bt} (h : BtsV w a ms) : a = none → ms.length = 0 := fun e => by
  by_cases h0 : ms.length = 0
  · exact h0
  · obtain ⟨b, off, e', _⟩ := h.at_ 0 (by omega)
    rw [e] at e'; cases e'

def VBk (B : Nat) (K : SBk) (a0 a1 a2 : Option Addr) (c0 c1 c2 : Nat) (i : Nat) (u : Value) (W : World) : Prop :=
  match i with
  | 0 => u = .pointer (some ⟨B, 0, none⟩)
  | 1 => u = .int .i64 K.now
  | 2 => Emp W (B + 2) 50 u
  | 3 => u = .pointer (some ⟨B, 1, none⟩)
  | 4 => u = .slice a0 K.svcs.length c0
  | 5 => W.ownsRow (B + 2) 50 13 u K.svcs.length (K.svcs.flatMap SvC)
  | 6 => Emp W (B + 2) 84 u
  | 7 => u = .pointer (some ⟨B, 2, none⟩)
  | 8 => u = .slice a1 K.cps.length c1
  | 9 => W.ownsRow (B + 2) 84 7 u K.cps.length (K.cps.flatMap CpC)
  | 10 => Emp W (B + 2) 82 u
  | 11 => u = .pointer (some ⟨B, 3, none⟩)
  | 12 => u = .slice a2 K.bts.length c2
  | 13 => W.ownsRow (B + 2) 82 2 u K.bts.length (K.bts.flatMap BtC)
  | 14 => ∃ s0 s1 s2, u = .agg #[.int .i64 K.now, s0, s1, s2] ∧ W.ownsRow (B + 2) 50 13 s0 K.svcs.length (K.svcs.flatMap SvC) ∧ W.ownsRow (B + 2) 84 7 s1 K.cps.length (K.cps.flatMap CpC) ∧ W.ownsRow (B + 2) 82 2 s2 K.bts.length (K.bts.flatMap BtC)
  | _ => True

theorem VBk_mono (B : Nat) (K : SBk) (a0 a1 a2 : Option Addr) (c0 c1 c2 : Nat) : ∀ j u W W', Below W.heap.size W W' → VBk B K a0 a1 a2 c0 c1 c2 j u W → VBk B K a0 a1 a2 c0 c1 c2 j u W' := by
  intro j u W W' hb h
  match j, h with
  | 0, h => exact h
  | 1, h => exact h
  | 2, h => exact Emp.on h hb
  | 3, h => exact h
  | 4, h => exact h
  | 5, h => exact owns_on h hb
  | 6, h => exact Emp.on h hb
  | 7, h => exact h
  | 8, h => exact h
  | 9, h => exact owns_on h hb
  | 10, h => exact Emp.on h hb
  | 11, h => exact h
  | 12, h => exact h
  | 13, h => exact owns_on h hb
  | 14, h =>
    obtain ⟨s0, s1, s2, e, h0, h1, h2⟩ := h
    exact ⟨s0, s1, s2, e, owns_on h0 hb, owns_on h1 hb, owns_on h2 hb⟩
  | n + 15, _ => trivial
theorem VBk_sc (B : Nat) (K : SBk) (a0 a1 a2 : Option Addr) (c0 c1 c2 : Nat) : ∀ j u W o x, VBk B K a0 a1 a2 c0 c1 c2 j u W → VBk B K a0 a1 a2 c0 c1 c2 j u (W.setCell ⟨B + 1, o, none⟩ x) := by
  intro j u W o x h
  match j, h with
  | 0, h => exact h
  | 1, h => exact h
  | 2, h => exact Emp.sc h (by omega) o x
  | 3, h => exact h
  | 4, h => exact h
  | 5, h => exact owns_sc h (by omega) o x
  | 6, h => exact Emp.sc h (by omega) o x
  | 7, h => exact h
  | 8, h => exact h
  | 9, h => exact owns_sc h (by omega) o x
  | 10, h => exact Emp.sc h (by omega) o x
  | 11, h => exact h
  | 12, h => exact h
  | 13, h => exact owns_sc h (by omega) o x
  | 14, h =>
    obtain ⟨s0, s1, s2, e, h0, h1, h2⟩ := h
    exact ⟨s0, s1, s2, e, owns_sc h0 (by omega) o x, owns_sc h1 (by omega) o x, owns_sc h2 (by omega) o x⟩
  | n + 15, _ => trivial

theorem Tryz.infoBk : (Tryz.prog.info? 34).map (·.size) = some 4 := by kernel_rfl

theorem Tryz.infSv : (Tryz.prog.info? 50).map (fun i => (i.zero, i.size, i.bytes)) = some (some (.agg #[.string ByteArray.empty, .int .i64 0, .bool false, .int .i64 0, .int .i64 0, .int .i64 0, .int .i64 0, .int .i64 0, .int .i64 0, .int .i64 0, .int .i64 0, .int .i64 0, .int .i64 0]), 13, 112) := by kernel_rfl
theorem Tryz.undSv : Tryz.prog.underlying 30 = some (.slice 50) := by kernel_rfl
theorem Tryz.infCp : (Tryz.prog.info? 84).map (fun i => (i.zero, i.size, i.bytes)) = some (some (.agg #[.string ByteArray.empty, .int .i64 0, .int .i64 0, .int .i64 0, .int .i64 0, .bool false, .string ByteArray.empty]), 7, 72) := by kernel_rfl
theorem Tryz.undCp : Tryz.prog.underlying 31 = some (.slice 84) := by kernel_rfl
theorem Tryz.infBt : (Tryz.prog.info? 82).map (fun i => (i.zero, i.size, i.bytes)) = some (some (.agg #[.string ByteArray.empty, .bool false]), 2, 24) := by kernel_rfl
theorem Tryz.undBt : Tryz.prog.underlying 32 = some (.slice 82) := by kernel_rfl

end Go.Proofs.YtamhfnlogldpaaaGreat
