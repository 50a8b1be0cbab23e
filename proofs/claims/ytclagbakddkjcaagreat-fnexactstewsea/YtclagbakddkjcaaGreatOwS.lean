/-
  Stores into own rows: a cell of an element.
-/
import Derived.Laws.Rows
import Derived.Test.YtclagbakddkjcaaGreatAp
import Derived.Test.YtclagbakddkjcaaGreatStP
namespace Go.Proofs.YtclagbakddkjcaaGreat
open Go.RowKit Go.Deep

theorem addN (b off i : Nat) : (Addr.add ⟨b, off, none⟩ i) = ⟨b, off + i, none⟩ := by
  unfold Addr.add; split <;> simp_all
theorem owns_is {w : World} {lo : Nat} {e : TypeId} {size : Nat} {v : Value} {n : Nat} {xs : List Value} (h : w.ownsRow lo e size v n xs) : ∃ a c, v = .slice a n c := by
  rcases h.2 with ⟨rfl, rfl⟩ | ⟨g, cap, cur, rfl, _⟩
  · exact ⟨_, _, rfl⟩
  · exact ⟨_, _, rfl⟩

def SvC (m : Sv) : List Value := [.string m.nm, .int .i64 m.ver, .bool m.gone, .int .i64 m.image, .int .i64 m.want, .int .i64 m.down, .int .i64 m.over, .int .i64 m.next, .int .i64 m.per, .int .i64 m.least, .int .i64 m.most, .int .i64 m.load, .int .i64 m.cool]
theorem SvC_len (m : Sv) : (SvC m).length = 13 := rfl
theorem SvC_one (l : List Sv) : ∀ u ∈ l.flatMap SvC, u.oneCell' = true := by
  intro u hu
  obtain ⟨m, _, hm⟩ := List.mem_flatMap.1 hu
  simp only [SvC, List.mem_cons, List.not_mem_nil, or_false] at hm
  rcases hm with rfl | rfl | rfl | rfl | rfl | rfl | rfl | rfl | rfl | rfl | rfl | rfl | rfl <;> rfl
theorem SvsV.news {w : World} {a : Option Addr} {ms : List Sv} (h : SvsV w a ms) : ∀ ad, a = some ad → ∀ j u, (ms.flatMap SvC)[j]? = some u → w.cell? (ad.add j) = some u := by
  intro ad ha j u hu
  by_cases h0 : ms.length = 0
  · have : ms = [] := List.eq_nil_of_length_eq_zero h0
    subst this
    simp at hu
  · obtain ⟨b, off, e, _, _⟩ := h.at_ 0 (by omega)
    rw [e] at ha
    injection ha with ha
    subst ha
    rw [addN]
    refine flat_get Sv.none SvC 13 SvC_len (fun j u => w.cell? ⟨b, j, none⟩ = some u) ms off (fun i hi k v hv => ?_) j u hu
    obtain ⟨b', off', e', _, hx⟩ := h.at_ i hi
    rw [e] at e'
    injection e' with e'
    injection e' with e1 e2 _
    subst e1 e2
    match k, hv with
    | 0, hv => injection hv with hv; subst hv; exact hx.c0
    | 1, hv => injection hv with hv; subst hv; exact hx.c1
    | 2, hv => injection hv with hv; subst hv; exact hx.c2
    | 3, hv => injection hv with hv; subst hv; exact hx.c3
    | 4, hv => injection hv with hv; subst hv; exact hx.c4
    | 5, hv => injection hv with hv; subst hv; exact hx.c5
    | 6, hv => injection hv with hv; subst hv; exact hx.c6
    | 7, hv => injection hv with hv; subst hv; exact hx.c7
    | 8, hv => injection hv with hv; subst hv; exact hx.c8
    | 9, hv => injection hv with hv; subst hv; exact hx.c9
    | 10, hv => injection hv with hv; subst hv; exact hx.c10
    | 11, hv => injection hv with hv; subst hv; exact hx.c11
    | 12, hv => injection hv with hv; subst hv; exact hx.c12
    | k + 13, hv => simp [SvC] at hv

theorem SvsV.nil {w : World} {a : Option Addr} {ms : List Sv} (h : SvsV w a ms) : a = none → ms.length = 0 := fun e => by
  by_cases h0 : ms.length = 0
  · exact h0
  · obtain ⟨b, off, e', _⟩ := h.at_ 0 (by omega)
    rw [e] at e'; cases e'
def CpC (m : Cp) : List Value := [.string m.svc, .int .i64 m.num, .int .i64 m.ver, .int .i64 m.image, .int .i64 m.state, .bool m.ending, .string m.berth]
theorem CpC_len (m : Cp) : (CpC m).length = 7 := rfl
theorem CpC_one (l : List Cp) : ∀ u ∈ l.flatMap CpC, u.oneCell' = true := by
  intro u hu
  obtain ⟨m, _, hm⟩ := List.mem_flatMap.1 hu
  simp only [CpC, List.mem_cons, List.not_mem_nil, or_false] at hm
  rcases hm with rfl | rfl | rfl | rfl | rfl | rfl | rfl <;> rfl
theorem CpsV.news {w : World} {a : Option Addr} {ms : List Cp} (h : CpsV w a ms) : ∀ ad, a = some ad → ∀ j u, (ms.flatMap CpC)[j]? = some u → w.cell? (ad.add j) = some u := by
  intro ad ha j u hu
  by_cases h0 : ms.length = 0
  · have : ms = [] := List.eq_nil_of_length_eq_zero h0
    subst this
    simp at hu
  · obtain ⟨b, off, e, _, _⟩ := h.at_ 0 (by omega)
    rw [e] at ha
    injection ha with ha
    subst ha
    rw [addN]
    refine flat_get Cp.none CpC 7 CpC_len (fun j u => w.cell? ⟨b, j, none⟩ = some u) ms off (fun i hi k v hv => ?_) j u hu
    obtain ⟨b', off', e', _, hx⟩ := h.at_ i hi
    rw [e] at e'
    injection e' with e'
    injection e' with e1 e2 _
    subst e1 e2
    match k, hv with
    | 0, hv => injection hv with hv; subst hv; exact hx.c0
    | 1, hv => injection hv with hv; subst hv; exact hx.c1
    | 2, hv => injection hv with hv; subst hv; exact hx.c2
    | 3, hv => injection hv with hv; subst hv; exact hx.c3
    | 4, hv => injection hv with hv; subst hv; exact hx.c4
    | 5, hv => injection hv with hv; subst hv; exact hx.c5
    | 6, hv => injection hv with hv; subst hv; exact hx.c6
    | k + 7, hv => simp [CpC] at hv

theorem CpsV.nil {w : World} {a : Option Addr} {ms : List Cp} (h : CpsV w a ms) : a = none → ms.length = 0 := fun e => by
  by_cases h0 : ms.length = 0
  · exact h0
  · obtain ⟨b, off, e', _⟩ := h.at_ 0 (by omega)
    rw [e] at e'; cases e'
def BtC (m : Bt) : List Value := [.string m.nm, .bool m.drain]
theorem BtC_len (m : Bt) : (BtC m).length = 2 := rfl
theorem BtC_one (l : List Bt) : ∀ u ∈ l.flatMap BtC, u.oneCell' = true := by
  intro u hu
  obtain ⟨m, _, hm⟩ := List.mem_flatMap.1 hu
  simp only [BtC, List.mem_cons, List.not_mem_nil, or_false] at hm
  rcases hm with rfl | rfl <;> rfl
theorem BtsV.news {w : World} {a : Option Addr} {ms : List Bt} (h : BtsV w a ms) : ∀ ad, a = some ad → ∀ j u, (ms.flatMap BtC)[j]? = some u → w.cell? (ad.add j) = some u := by
  intro ad ha j u hu
  by_cases h0 : ms.length = 0
  · have : ms = [] := List.eq_nil_of_length_eq_zero h0
    subst this
    simp at hu
  · obtain ⟨b, off, e, _, _⟩ := h.at_ 0 (by omega)
    rw [e] at ha
    injection ha with ha
    subst ha
    rw [addN]
    refine flat_get Bt.none BtC 2 BtC_len (fun j u => w.cell? ⟨b, j, none⟩ = some u) ms off (fun i hi k v hv => ?_) j u hu
    obtain ⟨b', off', e', _, hx⟩ := h.at_ i hi
    rw [e] at e'
    injection e' with e'
    injection e' with e1 e2 _
    subst e1 e2
    match k, hv with
    | 0, hv => injection hv with hv; subst hv; exact hx.c0
    | 1, hv => injection hv with hv; subst hv; exact hx.c1
    | k + 2, hv => simp [BtC] at hv

theorem BtsV.nil {w : World} {a : Option Addr} {ms : List Bt} (h : BtsV w a ms) : a = none → ms.length = 0 := fun e => by
  by_cases h0 : ms.length = 0
  · exact h0
  · obtain ⟨b, off, e', _⟩ := h.at_ 0 (by omega)
    rw [e] at e'; cases e'

def VBk (B : Nat) (K : SBk) (a0 a1 a2 : Option Addr) (c0 c1 c2 : Nat) (i : Nat) (u : Value) (W : World) : Prop :=
  match i with
  | 0 => u = .pointer (some ⟨B, 0, none⟩)
  | 1 => u = .int .i64 K.now
  | 2 => Emp W (B + 2) 41 u
  | 3 => u = .pointer (some ⟨B, 1, none⟩)
  | 4 => u = .slice a0 K.svcs.length c0
  | 5 => W.ownsRow (B + 2) 41 13 u K.svcs.length (K.svcs.flatMap SvC)
  | 6 => Emp W (B + 2) 81 u
  | 7 => u = .pointer (some ⟨B, 2, none⟩)
  | 8 => u = .slice a1 K.cps.length c1
  | 9 => W.ownsRow (B + 2) 81 7 u K.cps.length (K.cps.flatMap CpC)
  | 10 => Emp W (B + 2) 79 u
  | 11 => u = .pointer (some ⟨B, 3, none⟩)
  | 12 => u = .slice a2 K.bts.length c2
  | 13 => W.ownsRow (B + 2) 79 2 u K.bts.length (K.bts.flatMap BtC)
  | 14 => ∃ s0 s1 s2, u = .agg #[.int .i64 K.now, s0, s1, s2] ∧ W.ownsRow (B + 2) 41 13 s0 K.svcs.length (K.svcs.flatMap SvC) ∧ W.ownsRow (B + 2) 81 7 s1 K.cps.length (K.cps.flatMap CpC) ∧ W.ownsRow (B + 2) 79 2 s2 K.bts.length (K.bts.flatMap BtC)
  | _ => True

theorem VBk_mono (B : Nat) (K : SBk) (a0 a1 a2 : Option Addr) (c0 c1 c2 : Nat) : ∀ j u W W', Below W.heap.size W W' → VBk B K a0 a1 a2 c0 c1 c2 j u W → VBk B K a0 a1 a2 c0 c1 c2 j u W' := by
  intro j u W W' hb h
  match j, h with
  | 0, h => exact h
  | 1, h => exact h
  | 2, h => exact Emp.on h hb
  | 3, h => exact h
  | 4, h => exact h
  | 5, h => exact owns_on h hb
  | 6, h => exact Emp.on h hb
  | 7, h => exact h
  | 8, h => exact h
  | 9, h => exact owns_on h hb
  | 10, h => exact Emp.on h hb
  | 11, h => exact h
  | 12, h => exact h
  | 13, h => exact owns_on h hb
  | 14, h =>
    obtain ⟨s0, s1, s2, e, h0, h1, h2⟩ := h
    exact ⟨s0, s1, s2, e, owns_on h0 hb, owns_on h1 hb, owns_on h2 hb⟩
  | n + 15, _ => trivial
theorem VBk_sc (B : Nat) (K : SBk) (a0 a1 a2 : Option Addr) (c0 c1 c2 : Nat) : ∀ j u W o x, VBk B K a0 a1 a2 c0 c1 c2 j u W → VBk B K a0 a1 a2 c0 c1 c2 j u (W.setCell ⟨B + 1, o, none⟩ x) := by
  intro j u W o x h
  match j, h with
  | 0, h => exact h
  | 1, h => exact h
  | 2, h => exact Emp.sc h (by omega) o x
  | 3, h => exact h
  | 4, h => exact h
  | 5, h => exact owns_sc h (by omega) o x
  | 6, h => exact Emp.sc h (by omega) o x
  | 7, h => exact h
  | 8, h => exact h
  | 9, h => exact owns_sc h (by omega) o x
  | 10, h => exact Emp.sc h (by omega) o x
  | 11, h => exact h
  | 12, h => exact h
  | 13, h => exact owns_sc h (by omega) o x
  | 14, h =>
    obtain ⟨s0, s1, s2, e, h0, h1, h2⟩ := h
    exact ⟨s0, s1, s2, e, owns_sc h0 (by omega) o x, owns_sc h1 (by omega) o x, owns_sc h2 (by omega) o x⟩
  | n + 15, _ => trivial

theorem Tryz.infoBk : (Tryz.prog.info? 37).map (·.size) = some 4 := by kernel_rfl

theorem Tryz.infSv : (Tryz.prog.info? 41).map (fun i => (i.zero, i.size, i.bytes)) = some (some (.agg #[.string ByteArray.empty, .int .i64 0, .bool false, .int .i64 0, .int .i64 0, .int .i64 0, .int .i64 0, .int .i64 0, .int .i64 0, .int .i64 0, .int .i64 0, .int .i64 0, .int .i64 0]), 13, 112) := by kernel_rfl
theorem Tryz.undSv : Tryz.prog.underlying 33 = some (.slice 41) := by kernel_rfl
theorem Tryz.infCp : (Tryz.prog.info? 81).map (fun i => (i.zero, i.size, i.bytes)) = some (some (.agg #[.string ByteArray.empty, .int .i64 0, .int .i64 0, .int .i64 0, .int .i64 0, .bool false, .string ByteArray.empty]), 7, 72) := by kernel_rfl
theorem Tryz.undCp : Tryz.prog.underlying 34 = some (.slice 81) := by kernel_rfl
theorem Tryz.infBt : (Tryz.prog.info? 79).map (fun i => (i.zero, i.size, i.bytes)) = some (some (.agg #[.string ByteArray.empty, .bool false]), 2, 24) := by kernel_rfl
theorem Tryz.undBt : Tryz.prog.underlying 35 = some (.slice 79) := by kernel_rfl

set_option maxRecDepth 8000 in
set_option maxHeartbeats 8000000 in
theorem l12BookS (K : SBk) (a0 a1 a2 : Option Addr) (c0 c1 c2 : Nat) (w : World) (h : SBkV w a0 a1 a2 K) (hs : K.small) :
    Calls Tryz.prog 19 #[.agg #[.int .i64 K.now, .slice a0 K.svcs.length c0, .slice a1 K.cps.length c1, .slice a2 K.bts.length c2]] w fun e w' => (∃ s0 s1 s2, e = .returned (.agg #[.int .i64 K.now, s0, s1, s2]) ∧ w'.ownsRow (w.heap.size + 2) 41 13 s0 K.svcs.length (K.svcs.flatMap SvC) ∧ w'.ownsRow (w.heap.size + 2) 81 7 s1 K.cps.length (K.cps.flatMap CpC) ∧ w'.ownsRow (w.heap.size + 2) 79 2 s2 K.bts.length (K.bts.flatMap BtC)) ∧ Below w.heap.size w w' := by
  have HH := hid h
  have HS := hid hs
  clear h hs
  obtain ⟨wa, hwa⟩ : ∃ wa, wa = (w.alloc (.cells #[.int .i64 K.now, .slice a0 K.svcs.length c0, .slice a1 K.cps.length c1, .slice a2 K.bts.length c2] 37)).alloc (.cells #[.int .i64 0, .slice none 0 0, .slice none 0 0, .slice none 0 0] 37) := ⟨_, rfl⟩
  have HB : Hid (Below w.heap.size w wa) := by show Below _ _ _; rw [hwa]; exact blw_alloc (blw_alloc (Below.refl _ _) _) _
  have HX : Hid (Box4 wa w.heap.size (.int .i64 K.now) (.slice a0 K.svcs.length c0) (.slice a1 K.cps.length c1) (.slice a2 K.bts.length c2)) := by show Box4 _ _ _ _ _ _; rw [hwa]; exact (Box4.new' w _ _ _ _ _ _ rfl).past _
  have HO : Hid (OwnBlk wa (w.heap.size + 1) 37 4) := by show OwnBlk _ _ _ _; rw [hwa]; exact OwnBlk.alloc_at2 _ _ _ _ _ rfl (by simp)
  have HZ : Hid (w.heap.size + 2 ≤ wa.heap.size) := by show _ ≤ _; rw [hwa]; simp
  go_enter Tryz.func19, Tryz.ntmps19
  go_upto_region 1 with fail
  rw [← hwa]
  clear hwa
  refine RY.region_put (VBk w.heap.size K a0 a1 a2 c0 c1 c2) (VBk_mono _ K a0 a1 a2 c0 c1 c2) 14 15 17 2 37 4 (w.heap.size + 1) (VBk_sc _ K a0 a1 a2 c0 c1 c2) (by kernel_rfl) (by kernel_rfl) (by kernel_rfl) (by kernel_rfl) _ _ rfl rfl rfl rfl rfl (by decide) (by kernel_rfl) rfl (by kernel_rfl) HO.out Tryz.infoBk ?_ ?_ ?_
  · rintro u W ⟨s0, s1, s2, rfl, h0, h1, h2⟩
    obtain ⟨_, _, rfl⟩ := owns_is h0
    obtain ⟨_, _, rfl⟩ := owns_is h1
    obtain ⟨_, _, rfl⟩ := owns_is h2
    exact ⟨[_, _, _, _], rfl, rfl, by simp [Value.oneCell']⟩
  · intro i o ho hne a W hW hk hd
    obtain ⟨yz, y0, y1, y2, y3⟩ := HX.out
    have hV : SBkV W a0 a1 a2 K := HH.out.later (hW.below HB.out (by omega))
    have hsz : w.heap.size + 2 ≤ W.heap.size := Nat.le_trans HZ.out hW.size
    have x0 := (hW.cell yz (by omega) 0).trans y0
    have x1 := (hW.cell yz (by omega) 1).trans y1
    have x2 := (hW.cell yz (by omega) 2).trans y2
    have x3 := (hW.cell yz (by omega) 3).trans y3
    clear y0 y1 y2 y3
    match i, ho with
    | 0, ho =>
      injection ho with ho; subst ho
      have e0 : a.eval (.tmp 1) = .pointer (some ⟨w.heap.size, 0, none⟩) := (hk 1 (by kernel_rfl)).trans rfl
      exact Or.inl ⟨_, W, by simp [execOp, go_sem, (RY.ev_tmp a 1).trans e0], Below.refl _ _, rfl⟩
    | 1, ho =>
      injection ho with ho; subst ho
      have e0 : a.tmps[3]?.getD undef = _ := (RY.ev_tmp a 3).trans (hd 0 _ 3 rfl rfl ⟨⟨0, .data⟩, by simp, rfl, rfl⟩)
      exact Or.inl ⟨_, W, by simp [execOp, go_sem, e0, x0], Below.refl _ _, rfl⟩
    | 2, ho =>
      injection ho with ho; subst ho
      exact Or.inl ⟨_, W.alloc (.cells #[] 41), by simp [execOp, go_sem], blw_alloc (Below.refl _ _) _, ⟨W.heap.size, rfl, hsz, heap_alloc_new W _⟩⟩
    | 3, ho =>
      injection ho with ho; subst ho
      have e0 : a.eval (.tmp 1) = .pointer (some ⟨w.heap.size, 0, none⟩) := (hk 1 (by kernel_rfl)).trans rfl
      exact Or.inl ⟨_, W, by simp [execOp, go_sem, (RY.ev_tmp a 1).trans e0], Below.refl _ _, rfl⟩
    | 4, ho =>
      injection ho with ho; subst ho
      have e0 : a.tmps[6]?.getD undef = _ := (RY.ev_tmp a 6).trans (hd 3 _ 6 rfl rfl ⟨⟨3, .data⟩, by simp, rfl, rfl⟩)
      exact Or.inl ⟨_, W, by simp [execOp, go_sem, e0, x1], Below.refl _ _, rfl⟩
    | 5, ho =>
      injection ho with ho; subst ho
      obtain ⟨g, e0, hgl, hgg⟩ := hd 2 _ 5 rfl rfl ⟨⟨2, .data⟩, by simp, rfl, rfl⟩
      have e1 := hd 4 _ 7 rfl rfl ⟨⟨4, .data⟩, by simp, rfl, rfl⟩
      obtain ⟨v', W', hr, ho, hb⟩ := app_new (P := Tryz.prog) (w.heap.size + 2) 33 33 41 13 112 _ Tryz.undSv Tryz.infSv rfl W g hgg hgl a0 K.svcs.length c0 (K.svcs.flatMap SvC) (flat_len SvC 13 SvC_len _) hV.s.news hV.s.nil (SvC_one _) HS.out.1 (by omega) hsz
      exact Or.inl ⟨v', W', exec_append (.tmp 5) (.tmp 7) 33 rfl e0 e1 hr, hb, ho⟩
    | 6, ho =>
      injection ho with ho; subst ho
      exact Or.inl ⟨_, W.alloc (.cells #[] 81), by simp [execOp, go_sem], blw_alloc (Below.refl _ _) _, ⟨W.heap.size, rfl, hsz, heap_alloc_new W _⟩⟩
    | 7, ho =>
      injection ho with ho; subst ho
      have e0 : a.eval (.tmp 1) = .pointer (some ⟨w.heap.size, 0, none⟩) := (hk 1 (by kernel_rfl)).trans rfl
      exact Or.inl ⟨_, W, by simp [execOp, go_sem, (RY.ev_tmp a 1).trans e0], Below.refl _ _, rfl⟩
    | 8, ho =>
      injection ho with ho; subst ho
      have e0 : a.tmps[10]?.getD undef = _ := (RY.ev_tmp a 10).trans (hd 7 _ 10 rfl rfl ⟨⟨7, .data⟩, by simp, rfl, rfl⟩)
      exact Or.inl ⟨_, W, by simp [execOp, go_sem, e0, x2], Below.refl _ _, rfl⟩
    | 9, ho =>
      injection ho with ho; subst ho
      obtain ⟨g, e0, hgl, hgg⟩ := hd 6 _ 9 rfl rfl ⟨⟨6, .data⟩, by simp, rfl, rfl⟩
      have e1 := hd 8 _ 11 rfl rfl ⟨⟨8, .data⟩, by simp, rfl, rfl⟩
      obtain ⟨v', W', hr, ho, hb⟩ := app_new (P := Tryz.prog) (w.heap.size + 2) 34 34 81 7 72 _ Tryz.undCp Tryz.infCp rfl W g hgg hgl a1 K.cps.length c1 (K.cps.flatMap CpC) (flat_len CpC 7 CpC_len _) hV.c.news hV.c.nil (CpC_one _) HS.out.2.1 (by omega) hsz
      exact Or.inl ⟨v', W', exec_append (.tmp 9) (.tmp 11) 34 rfl e0 e1 hr, hb, ho⟩
    | 10, ho =>
      injection ho with ho; subst ho
      exact Or.inl ⟨_, W.alloc (.cells #[] 79), by simp [execOp, go_sem], blw_alloc (Below.refl _ _) _, ⟨W.heap.size, rfl, hsz, heap_alloc_new W _⟩⟩
    | 11, ho =>
      injection ho with ho; subst ho
      have e0 : a.eval (.tmp 1) = .pointer (some ⟨w.heap.size, 0, none⟩) := (hk 1 (by kernel_rfl)).trans rfl
      exact Or.inl ⟨_, W, by simp [execOp, go_sem, (RY.ev_tmp a 1).trans e0], Below.refl _ _, rfl⟩
    | 12, ho =>
      injection ho with ho; subst ho
      have e0 : a.tmps[14]?.getD undef = _ := (RY.ev_tmp a 14).trans (hd 11 _ 14 rfl rfl ⟨⟨11, .data⟩, by simp, rfl, rfl⟩)
      exact Or.inl ⟨_, W, by simp [execOp, go_sem, e0, x3], Below.refl _ _, rfl⟩
    | 13, ho =>
      injection ho with ho; subst ho
      obtain ⟨g, e0, hgl, hgg⟩ := hd 10 _ 13 rfl rfl ⟨⟨10, .data⟩, by simp, rfl, rfl⟩
      have e1 := hd 12 _ 15 rfl rfl ⟨⟨12, .data⟩, by simp, rfl, rfl⟩
      obtain ⟨v', W', hr, ho, hb⟩ := app_new (P := Tryz.prog) (w.heap.size + 2) 35 35 79 2 24 _ Tryz.undBt Tryz.infBt rfl W g hgg hgl a2 K.bts.length c2 (K.bts.flatMap BtC) (flat_len BtC 2 BtC_len _) hV.b.news hV.b.nil (BtC_one _) HS.out.2.2 (by omega) hsz
      exact Or.inl ⟨v', W', exec_append (.tmp 13) (.tmp 15) 35 rfl e0 e1 hr, hb, ho⟩
    | 14, ho =>
      injection ho with ho; subst ho
      have e1 : a.tmps[4]?.getD undef = _ := (RY.ev_tmp a 4).trans (hd 1 _ 4 rfl rfl ⟨⟨1, .data⟩, by simp, rfl, rfl⟩)
      have o0 := hd 5 _ 8 rfl rfl ⟨⟨5, .data⟩, by simp, rfl, rfl⟩
      have o1 := hd 9 _ 12 rfl rfl ⟨⟨9, .data⟩, by simp, rfl, rfl⟩
      have o2 := hd 13 _ 16 rfl rfl ⟨⟨13, .data⟩, by simp, rfl, rfl⟩
      obtain ⟨p0, q0, f0⟩ := owns_is o0
      obtain ⟨p1, q1, f1⟩ := owns_is o1
      obtain ⟨p2, q2, f2⟩ := owns_is o2
      have g0 : a.tmps[8]?.getD undef = _ := (RY.ev_tmp a 8).trans f0
      have g1 : a.tmps[12]?.getD undef = _ := (RY.ev_tmp a 12).trans f1
      have g2 : a.tmps[16]?.getD undef = _ := (RY.ev_tmp a 16).trans f2
      rw [f0] at o0
      rw [f1] at o1
      rw [f2] at o2
      exact Or.inl ⟨_, W, by simp [execOp, go_sem, e1, g0, g1, g2], Below.refl _ _, ⟨_, _, _, rfl, o0, o1, o2⟩⟩
    | 15, ho => exact absurd rfl hne
    | n + 16, ho => simp at ho
  intro W vs hW hvs hOw hrg
  obtain ⟨s0, s1, s2, e, h0, h1, h2⟩ := hvs 14 _ 17 rfl rfl
  have rg := hrg [.int .i64 K.now, s0, s1, s2] e
  have t0 := rg 0 _ rfl
  have t1 := rg 1 _ rfl
  have t2 := rg 2 _ rfl
  have t3 := rg 3 _ rfl
  have HB2 := hid (hW.below HB.out (by omega))
  simp only [Nat.zero_add, Nat.add_zero] at t0 t1 t2 t3
  obtain ⟨p0, q0, rfl⟩ := owns_is h0
  obtain ⟨p1, q1, rfl⟩ := owns_is h1
  obtain ⟨p2, q2, rfl⟩ := owns_is h2
  simp only [RY.putAll, Act.put, List.setIfInBounds_toArray, List.set_cons_zero, List.set_cons_succ]
  generalize vs 3 = z3
  generalize vs 4 = z4
  generalize vs 5 = z5
  generalize vs 6 = z6
  generalize vs 7 = z7
  generalize vs 8 = z8
  generalize vs 9 = z9
  generalize vs 10 = z10
  generalize vs 11 = z11
  generalize vs 12 = z12
  generalize vs 13 = z13
  generalize vs 14 = z14
  generalize vs 15 = z15
  generalize vs 16 = z16
  generalize vs 17 = z17
  clear hvs hrg rg
  go_wp2
  refine bodyPost_ret (v := .agg #[.int .i64 K.now, .slice p0 K.svcs.length q0, .slice p1 K.cps.length q1, .slice p2 K.bts.length q2]) (by simp [results, Tryz.results19, go_sem, t0, t1, t2, t3]) rfl ⟨⟨_, _, _, rfl, h0, h1, h2⟩, HB2.out⟩

end Go.Proofs.YtclagbakddkjcaaGreat

namespace Go.Proofs.YtclagbakddkjcaaGreat
open Go.RowKit Go.Deep

theorem flat_at {α : Type} (d : α) (f : α → List Value) (n : Nat) (hf : ∀ x, (f x).length = n) : ∀ (l : List α) (i k : Nat), i < l.length → k < n → (l.flatMap f)[i * n + k]? = (f (l.getD i d))[k]?
  | [], _, _, hi, _ => by simp at hi
  | x :: xs, 0, k, _, hk => by
    rw [List.flatMap_cons, List.getElem?_append_left (by rw [hf]; omega)]
    simp
  | x :: xs, i + 1, k, hi, hk => by
    have e : (i + 1) * n + k = n + (i * n + k) := by rw [Nat.add_mul]; omega
    rw [List.flatMap_cons, List.getElem?_append_right (by rw [hf]; omega), hf]
    have e2 : (i + 1) * n + k - n = i * n + k := by omega
    rw [e2, flat_at d f n hf xs i k (by simpa using hi) hk]
    simp
theorem owns_cells {w : World} {lo : Nat} {e : TypeId} {size : Nat} {v : Value} {n : Nat} {xs : List Value} (h : w.ownsRow lo e size v n xs) (hn : 0 < n) : ∃ g c, v = .slice (some ⟨g, 0, none⟩) n c ∧ lo ≤ g ∧ g < w.heap.size ∧ ∀ j u, xs[j]? = some u → w.cell? ⟨g, j, none⟩ = some u := by
  rcases h.2 with ⟨_, h0⟩ | ⟨g, cap, cur, hv, hb, hg, _⟩
  · omega
  · have hlt : g < w.heap.size := by
      rcases Nat.lt_or_ge g w.heap.size with q | q
      · exact q
      · rw [Array.getElem?_eq_none q] at hg; cases hg
    refine ⟨g, cap, hv, hb, hlt, fun j u hu => ?_⟩
    have := h.cells (g := g) (by rw [hv]; rfl) j u hu
    rw [addN, Nat.zero_add] at this
    exact this
theorem owns_Svs {w : World} {lo : Nat} {v : Value} {ms : List Sv} (h : w.ownsRow lo 41 13 v ms.length (ms.flatMap SvC)) (hs : ∀ i, i < ms.length → (ms.getD i Sv.none).sized) (hm : ms.length ≤ maxLen) : ∃ a c, v = .slice a ms.length c ∧ SvsV w a ms := by
  by_cases h0 : ms.length = 0
  · obtain ⟨a, c, rfl⟩ := owns_is h
    exact ⟨a, c, rfl, hm, fun i hi => by omega⟩
  · obtain ⟨g, c, rfl, _, hg, hc⟩ := owns_cells h (by omega)
    refine ⟨_, c, rfl, hm, fun i hi => ⟨g, 0, rfl, hg, ?_⟩⟩
    have x := fun k (hk : k < 13) u (hu : (SvC (ms.getD i Sv.none))[k]? = some u) => hc (i * 13 + k) u ((flat_at Sv.none SvC 13 SvC_len ms i k hi hk).trans hu)
    rw [Nat.zero_add]
    exact ⟨x 0 (by omega) _ rfl, x 1 (by omega) _ rfl, x 2 (by omega) _ rfl, x 3 (by omega) _ rfl, x 4 (by omega) _ rfl, x 5 (by omega) _ rfl, x 6 (by omega) _ rfl, x 7 (by omega) _ rfl, x 8 (by omega) _ rfl, x 9 (by omega) _ rfl, x 10 (by omega) _ rfl, x 11 (by omega) _ rfl, x 12 (by omega) _ rfl, hs i hi⟩
theorem owns_Cps {w : World} {lo : Nat} {v : Value} {ms : List Cp} (h : w.ownsRow lo 81 7 v ms.length (ms.flatMap CpC)) (hs : ∀ i, i < ms.length → (ms.getD i Cp.none).sized) (hm : ms.length ≤ maxLen) : ∃ a c, v = .slice a ms.length c ∧ CpsV w a ms := by
  by_cases h0 : ms.length = 0
  · obtain ⟨a, c, rfl⟩ := owns_is h
    exact ⟨a, c, rfl, hm, fun i hi => by omega⟩
  · obtain ⟨g, c, rfl, _, hg, hc⟩ := owns_cells h (by omega)
    refine ⟨_, c, rfl, hm, fun i hi => ⟨g, 0, rfl, hg, ?_⟩⟩
    have x := fun k (hk : k < 7) u (hu : (CpC (ms.getD i Cp.none))[k]? = some u) => hc (i * 7 + k) u ((flat_at Cp.none CpC 7 CpC_len ms i k hi hk).trans hu)
    rw [Nat.zero_add]
    exact ⟨x 0 (by omega) _ rfl, x 1 (by omega) _ rfl, x 2 (by omega) _ rfl, x 3 (by omega) _ rfl, x 4 (by omega) _ rfl, x 5 (by omega) _ rfl, x 6 (by omega) _ rfl, hs i hi⟩
theorem owns_Bts {w : World} {lo : Nat} {v : Value} {ms : List Bt} (h : w.ownsRow lo 79 2 v ms.length (ms.flatMap BtC)) (hs : ∀ i, i < ms.length → (ms.getD i Bt.none).sized) (hm : ms.length ≤ maxLen) : ∃ a c, v = .slice a ms.length c ∧ BtsV w a ms := by
  by_cases h0 : ms.length = 0
  · obtain ⟨a, c, rfl⟩ := owns_is h
    exact ⟨a, c, rfl, hm, fun i hi => by omega⟩
  · obtain ⟨g, c, rfl, _, hg, hc⟩ := owns_cells h (by omega)
    refine ⟨_, c, rfl, hm, fun i hi => ⟨g, 0, rfl, hg, ?_⟩⟩
    have x := fun k (hk : k < 2) u (hu : (BtC (ms.getD i Bt.none))[k]? = some u) => hc (i * 2 + k) u ((flat_at Bt.none BtC 2 BtC_len ms i k hi hk).trans hu)
    rw [Nat.zero_add]
    exact ⟨x 0 (by omega) _ rfl, x 1 (by omega) _ rfl, hs i hi⟩

end Go.Proofs.YtclagbakddkjcaaGreat

namespace Go.Proofs.YtclagbakddkjcaaGreat
open Go.RowKit Go.Deep

theorem owns_set {w : World} {lo g : Nat} {e : TypeId} {size n c : Nat} {xs : List Value} (h : w.ownsRow lo e size (.slice (some ⟨g, 0, none⟩) n c) n xs) (j : Nat) (x : Value) :
    (w.setCell ⟨g, j, none⟩ x).ownsRow lo e size (.slice (some ⟨g, 0, none⟩) n c) n (xs.set j x) := by
  refine ⟨by rw [List.length_set]; exact h.1, ?_⟩
  rcases h.2 with ⟨hv, _⟩ | ⟨g', cap, cur, hv, hb, hg, hc, hcm, hs, ht⟩
  · cases hv
  · have e1 : g = g' := by injection hv with a _ _; injection a with a; injection a
    have e2 : c = cap := by injection hv
    subst e1 e2
    refine .inr ⟨g, c, _, rfl, hb, heap_setCell_same w g j cur e x hg, hc, hcm, by simpa using hs, ?_⟩
    rw [Array.toList_setIfInBounds, ← ht, List.take_set]

theorem flat_set {α : Type} (d : α) (f : α → List Value) (n : Nat) (hf : ∀ x, (f x).length = n) (k : Nat) (hk : k < n) (x : Value) : ∀ (l : List α) (i : Nat) (m : α), i < l.length → f m = (f (l.getD i d)).set k x → (l.flatMap f).set (i * n + k) x = (l.set i m).flatMap f
  | [], _, _, hi, _ => by simp at hi
  | y :: ys, 0, m, _, hm => by
    rw [List.set_cons_zero, List.flatMap_cons, List.flatMap_cons, List.set_append_left _ _ (by rw [hf]; omega), hm]
    simp
  | y :: ys, i + 1, m, hi, hm => by
    have e2 : (i + 1) * n + k - n = i * n + k := by rw [Nat.add_mul]; omega
    rw [List.set_cons_succ, List.flatMap_cons, List.flatMap_cons, List.set_append_right _ _ (by rw [hf, Nat.add_mul]; omega), hf, e2, flat_set d f n hf k hk x ys i m (by simpa using hi) (by simpa using hm)]

end Go.Proofs.YtclagbakddkjcaaGreat
