/-
  Grants, and lists of them: as they lie in memory; sizes, copies, equality.
-/
import Derived.Test.YtliaibdbcaglnaaMemO
import Derived.Test.YtliaibdbcaglnaaWalkRA
namespace Go.Proofs.Ytliaibdbcaglnaa
open Go.RowKit Go.Deep

structure Gr where
  number : Int
  too : ByteArray
  by_ : ByteArray
  rule : Rul

def Gr.none : Gr := ⟨0, ByteArray.empty, ByteArray.empty, Rul.none⟩
def Gr.sized (r : Gr) : Prop := r.too.size ≤ maxLen ∧ r.by_.size ≤ maxLen ∧ r.rule.verbs.length ≤ maxLen ∧ r.rule.sized

theorem IntsIn.putsB {w : World} {b B : Nat} {l : List Int} (h : IntsIn w b l) (hne : B < b) (o : Nat) (vs : List Value) : IntsIn (puts w B o 0 vs) b l :=
  ⟨by rw [puts_size]; exact h.lt, h.len, fun i hi => (puts_other B o b i vs w 0 (Or.inl (by omega))).trans (h.at_ i hi)⟩
theorem IntsIn.scB {w : World} {b B : Nat} {l : List Int} (h : IntsIn w b l) (hne : B < b) (o : Nat) (v : Value) : IntsIn (w.setCell ⟨B, o, none⟩ v) b l := h.putsB hne o [v]

set_option maxHeartbeats 1000000 in
theorem szGr (ra : Option Addr) (rc : Nat) (r : Gr) (left : Int) (w : World) (h0 : 0 ≤ left) (h1 : left ≤ 1048576) (hs : r.sized) :
    Calls Try.prog 59 #[.agg #[.int .i64 r.number, .string r.too, .string r.by_, .slice ra r.rule.verbs.length rc, .string r.rule.kind, .string r.rule.team, .string r.rule.pre], .int .i64 left] w fun e w' => (∃ x : Int, e = .returned (.int .i64 x) ∧ szP (r.rule.verbs.length ≤ 1048576) left x) ∧ Below w.heap.size w w' := by
  have HS : Hid (r.rule.verbs.length ≤ maxLen ∧ r.rule.sized) := hs.2.2
  have s0 := hs.1
  have s1 := hs.2.1
  clear hs
  unfold maxLen at s0 s1
  by_cases c1 : left < (r.too.size : Int)
  · go_enter Try.func59, Try.ntmps59
    go_wp2
    go_ret
    exact ⟨⟨_, rfl, by unfold szP; exact ⟨by omega, by omega, by omega⟩⟩, blw_alloc (Below.refl _ _) _⟩
  by_cases c2 : left - r.too.size < (r.by_.size : Int)
  · go_enter Try.func59, Try.ntmps59
    go_wp2
    go_ret
    exact ⟨⟨_, rfl, by unfold szP; exact ⟨by omega, by omega, by omega⟩⟩, blw_alloc (Below.refl _ _) _⟩
  go_enter Try.func59, Try.ntmps59
  go_wp2_with fail
  refine (szRule ra rc r.rule _ _ (by omega) (by omega) HS.out.1 HS.out.2).mono ?_
  rintro e w1 ⟨⟨x, rfl, hx⟩, hb⟩
  have q1 : -1 ≤ x := hx.1
  have q2 : x ≤ left - r.too.size - r.by_.size := hx.2.1
  have HR : Hid (0 ≤ x → (r.rule.verbs.length : Int) ≤ 1048576) := fun h => by have := hx.2.2 h; omega
  have HB : Hid (Below w.heap.size w w1) := blw_trans (blw_alloc (Below.refl _ _) _) hb
  clear hx hb
  by_cases c3 : x < 0
  all_goals
    go_wp2
    go_ret
    refine ⟨⟨_, rfl, ?_⟩, HB.out⟩
    unfold szP
    exact ⟨by omega, by omega, fun h => by have := HR.out (by omega); omega⟩

set_option maxHeartbeats 4000000 in
theorem toGr (ra : Option Addr) (rc : Nat) (r : Gr) (w : World) (hl : r.rule.verbs.length ≤ 1048576) (h : NumsAt w (.slice ra r.rule.verbs.length rc) r.rule.verbs) :
    Calls Try.prog 63 #[.agg #[.int .i64 r.number, .string r.too, .string r.by_, .slice ra r.rule.verbs.length rc, .string r.rule.kind, .string r.rule.team, .string r.rule.pre]] w fun e w' => (∃ b1, e = .returned (.agg #[.int .i64 r.number, .string r.too, .string r.by_, .slice (some ⟨b1, 0, none⟩) r.rule.verbs.length r.rule.verbs.length, .string r.rule.kind, .string r.rule.team, .string r.rule.pre]) ∧ w.heap.size ≤ b1 ∧ IntsIn w' b1 r.rule.verbs) ∧ Below w.heap.size w w' := by
  have HH : Hid (NumsAt w (.slice ra r.rule.verbs.length rc) r.rule.verbs) := h
  clear h
  obtain ⟨wb, hwb⟩ : ∃ wb, wb = ((w.alloc (.cells #[.int .i64 r.number, .string r.too, .string r.by_, .slice ra r.rule.verbs.length rc, .string r.rule.kind, .string r.rule.team, .string r.rule.pre] 123)).alloc (.cells #[.int .i64 0, .string ⟨#[]⟩, .string ⟨#[]⟩, .slice none 0 0, .string ⟨#[]⟩, .string ⟨#[]⟩, .string ⟨#[]⟩] 133)).alloc (.cells #[.int .i64 r.number, .string r.too, .string r.by_, .slice none 0 0, .string ⟨#[]⟩, .string ⟨#[]⟩, .string ⟨#[]⟩] 133) := ⟨_, rfl⟩
  have HBb : Hid (Below w.heap.size w wb) := by show Below _ _ _; rw [hwb]; exact blw_alloc (blw_alloc (blw_alloc (Below.refl _ _) _) _) _
  have HOb : Hid (OwnBlk wb (w.heap.size + 2) 133 7) := by show OwnBlk _ _ _ _; rw [hwb]; exact OwnBlk.alloc_at2 _ _ _ _ _ rfl (by simp)
  have HRb : Hid (OwnBlk wb (w.heap.size + 1) 133 7) := by show OwnBlk _ _ _ _; rw [hwb]; exact (OwnBlk.alloc_at2 _ _ _ _ _ rfl (by simp)).past _
  have HZb : Hid (wb.heap.size = w.heap.size + 3) := by show _ = _; rw [hwb]; simp
  have HCb : Hid (wb.cell? ⟨w.heap.size + 2, 0, none⟩ = some (.int .i64 r.number) ∧ wb.cell? ⟨w.heap.size + 2, 1, none⟩ = some (.string r.too) ∧ wb.cell? ⟨w.heap.size + 2, 2, none⟩ = some (.string r.by_)) := by show _ ∧ _ ∧ _; rw [hwb]; exact ⟨World.cell?_alloc_at _ _ _ _ (by simp), World.cell?_alloc_at _ _ _ _ (by simp), World.cell?_alloc_at _ _ _ _ (by simp)⟩
  have HAb : Hid (Box7 wb w.heap.size (.int .i64 r.number) (.string r.too) (.string r.by_) (.slice ra r.rule.verbs.length rc) (.string r.rule.kind) (.string r.rule.team) (.string r.rule.pre)) := by show Box7 _ _ _ _ _ _ _ _ _; rw [hwb]; exact ((Box7.new' w _ _ _ _ _ _ _ _ _ rfl).past _).past _
  go_enter Try.func63, Try.ntmps63
  go_upto_region 5 with fail
  rw [← hwb]
  clear hwb
  obtain ⟨yz, y0, y1, y2, y3, y4, y5, y6⟩ := HAb.out
  go_wp2_with fail
  refine (toRule ra rc r.rule wb hl (HH.out.later HBb.out)).mono ?_
  rintro e wc ⟨⟨b1, rfl, hle, _, hii⟩, hb⟩
  have HBc : Hid (Below w.heap.size w wc) := blw_trans HBb.out hb
  have HOc : Hid (OwnBlk wc (w.heap.size + 2) 133 7) := HOb.out.later hb
  have HRc : Hid (OwnBlk wc (w.heap.size + 1) 133 7) := HRb.out.later hb
  have hz2 : w.heap.size + 2 < wb.heap.size := by have := HZb.out; omega
  have c0 := (hb.cell (p := ⟨w.heap.size + 2, 0, none⟩) hz2).trans HCb.out.1
  have c1 := (hb.cell (p := ⟨w.heap.size + 2, 1, none⟩) hz2).trans HCb.out.2.1
  have c2 := (hb.cell (p := ⟨w.heap.size + 2, 2, none⟩) hz2).trans HCb.out.2.2
  have HII : Hid (IntsIn wc b1 r.rule.verbs ∧ w.heap.size + 2 < b1) := ⟨hii, by have := HZb.out; omega⟩
  clear hb hii hle hz2 yz y0 y1 y2 y3 y4 y5 y6 HBb HOb HRb HZb HCb HAb
  obtain ⟨wd, hwd⟩ : ∃ wd, wd = puts wc (w.heap.size + 2) 3 0 [.slice (some ⟨b1, 0, none⟩) r.rule.verbs.length r.rule.verbs.length, .string r.rule.kind, .string r.rule.team, .string r.rule.pre] := ⟨_, rfl⟩
  have HBd : Hid (Below w.heap.size w wd) := by show Below _ _ _; rw [hwd]; exact puts_below (a := w) _ (by omega) _ _ _ HBc.out
  have HRd : Hid (OwnBlk wd (w.heap.size + 1) 133 7) := by show OwnBlk _ _ _ _; rw [hwd]; exact own_puts_other _ (by omega) _ _ _ HRc.out
  have HId : Hid (IntsIn wd b1 r.rule.verbs ∧ w.heap.size + 2 < b1) := by show _ ∧ _; rw [hwd]; exact ⟨HII.out.1.putsB HII.out.2 _ _, HII.out.2⟩
  have p := fun i hi => puts_at 3 [.slice (some ⟨b1, 0, none⟩) r.rule.verbs.length r.rule.verbs.length, .string r.rule.kind, .string r.rule.team, .string r.rule.pre] wc 0 HOc.out (by simp) i hi
  have d0 : wd.cell? ⟨w.heap.size + 2, 0, none⟩ = some (.int .i64 r.number) := by rw [hwd]; exact (puts_other _ _ _ _ _ _ _ (by omega)).trans c0
  have d1 : wd.cell? ⟨w.heap.size + 2, 1, none⟩ = some (.string r.too) := by rw [hwd]; exact (puts_other _ _ _ _ _ _ _ (by omega)).trans c1
  have d2 : wd.cell? ⟨w.heap.size + 2, 2, none⟩ = some (.string r.by_) := by rw [hwd]; exact (puts_other _ _ _ _ _ _ _ (by omega)).trans c2
  have d3 : wd.cell? ⟨w.heap.size + 2, 3, none⟩ = some (.slice (some ⟨b1, 0, none⟩) r.rule.verbs.length r.rule.verbs.length) := by rw [hwd]; exact p 0 (by simp)
  have d4 : wd.cell? ⟨w.heap.size + 2, 4, none⟩ = some (.string r.rule.kind) := by rw [hwd]; exact p 1 (by simp)
  have d5 : wd.cell? ⟨w.heap.size + 2, 5, none⟩ = some (.string r.rule.team) := by rw [hwd]; exact p 2 (by simp)
  have d6 : wd.cell? ⟨w.heap.size + 2, 6, none⟩ = some (.string r.rule.pre) := by rw [hwd]; exact p 3 (by simp)
  have dz : w.heap.size + 2 < wd.heap.size := by rw [hwd, puts_size]; exact HOc.out.lt
  have hfz := HOc.out.frozen
  have hz := HOc.out.lt
  obtain ⟨z3, e3⟩ := HOc.out.cell 3 (by omega)
  obtain ⟨z4, e4⟩ := HOc.out.cell 4 (by omega)
  obtain ⟨z5, e5⟩ := HOc.out.cell 5 (by omega)
  obtain ⟨z6, e6⟩ := HOc.out.cell 6 (by omega)
  simp only [puts, Nat.add_zero, Nat.zero_add, Nat.reduceAdd] at hwd
  clear p c0 c1 c2
  go_upto_region 6 with fail
  rw [← hwd]
  clear hwd hfz hz e3 e4 e5 e6
  have hfz := HRd.out.frozen
  have hz := HRd.out.lt
  obtain ⟨z0, e0⟩ := HRd.out.cell 0 (by omega)
  obtain ⟨z1, e1⟩ := HRd.out.cell 1 (by omega)
  obtain ⟨z2, e2⟩ := HRd.out.cell 2 (by omega)
  obtain ⟨z3, e3⟩ := HRd.out.cell 3 (by omega)
  obtain ⟨z4, e4⟩ := HRd.out.cell 4 (by omega)
  obtain ⟨z5, e5⟩ := HRd.out.cell 5 (by omega)
  obtain ⟨z6, e6⟩ := HRd.out.cell 6 (by omega)
  go_wp2
  have p := fun i hi => puts_at 0 [.int .i64 r.number, .string r.too, .string r.by_, .slice (some ⟨b1, 0, none⟩) r.rule.verbs.length r.rule.verbs.length, .string r.rule.kind, .string r.rule.team, .string r.rule.pre] wd 0 HRd.out (by simp) i hi
  have t0 := p 0 (by simp)
  have t1 := p 1 (by simp)
  have t2 := p 2 (by simp)
  have t3 := p 3 (by simp)
  have t4 := p 4 (by simp)
  have t5 := p 5 (by simp)
  have t6 := p 6 (by simp)
  have HPP : Hid (IntsIn (puts wd (w.heap.size + 1) 0 0 [.int .i64 r.number, .string r.too, .string r.by_, .slice (some ⟨b1, 0, none⟩) r.rule.verbs.length r.rule.verbs.length, .string r.rule.kind, .string r.rule.team, .string r.rule.pre]) b1 r.rule.verbs ∧ Below w.heap.size w (puts wd (w.heap.size + 1) 0 0 [.int .i64 r.number, .string r.too, .string r.by_, .slice (some ⟨b1, 0, none⟩) r.rule.verbs.length r.rule.verbs.length, .string r.rule.kind, .string r.rule.team, .string r.rule.pre])) := ⟨HId.out.1.putsB (by have := HId.out.2; omega) _ _, puts_below (a := w) _ (by omega) _ _ _ HBd.out⟩
  simp only [puts, Nat.add_zero, Nat.zero_add, Nat.reduceAdd, List.getElem?_cons_zero, List.getElem?_cons_succ] at t0 t1 t2 t3 t4 t5 t6
  refine bodyPost_ret (v := .agg #[.int .i64 r.number, .string r.too, .string r.by_, .slice (some ⟨b1, 0, none⟩) r.rule.verbs.length r.rule.verbs.length, .string r.rule.kind, .string r.rule.team, .string r.rule.pre]) (by simp [results, Try.results63, go_sem, t0, t1, t2, t3, t4, t5, t6]) rfl ⟨⟨b1, rfl, by have := HId.out.2; omega, ?_⟩, ?_⟩
  · exact HPP.out.1
  · exact HPP.out.2

set_option maxHeartbeats 2000000 in
theorem eqGr (b1 b1' : Nat) (r : Gr) (w : World) (h : IntsIn w b1 r.rule.verbs) (h' : IntsIn w b1' r.rule.verbs) :
    Calls Try.prog 67 #[.agg #[.int .i64 r.number, .string r.too, .string r.by_, .slice (some ⟨b1, 0, none⟩) r.rule.verbs.length r.rule.verbs.length, .string r.rule.kind, .string r.rule.team, .string r.rule.pre], .agg #[.int .i64 r.number, .string r.too, .string r.by_, .slice (some ⟨b1', 0, none⟩) r.rule.verbs.length r.rule.verbs.length, .string r.rule.kind, .string r.rule.team, .string r.rule.pre]] w fun e w' => e = .returned (.bool true) ∧ Below w.heap.size w w' := by
  have HX : Hid (∀ o1 o2, Calls Try.prog 75 #[.agg #[.slice (some ⟨b1, 0, none⟩) r.rule.verbs.length r.rule.verbs.length, .string r.rule.kind, .string r.rule.team, .string r.rule.pre], .agg #[.slice (some ⟨b1', 0, none⟩) r.rule.verbs.length r.rule.verbs.length, .string r.rule.kind, .string r.rule.team, .string r.rule.pre]] ((w.alloc o1).alloc o2) fun e w' => e = .returned (.bool true) ∧ Below ((w.alloc o1).alloc o2).heap.size ((w.alloc o1).alloc o2) w') := fun o1 o2 => eqRule b1 b1' r.rule _ (h.later (blw_alloc (blw_alloc (Below.refl _ _) _) _)) (h'.later (blw_alloc (blw_alloc (Below.refl _ _) _) _))
  clear h h'
  go_enter Try.func67, Try.ntmps67
  go_wp2_with fail
  refine (HX.out _ _).mono ?_
  rintro e w1 ⟨rfl, hb⟩
  have HB : Hid (Below w.heap.size w w1) := blw_trans (blw_alloc (blw_alloc (Below.refl _ _) _) _) hb
  clear hb HX
  go_wp2
  go_ret
  exact ⟨rfl, HB.out⟩

/-- One of 7 cells that was handed in. -/
def GrC (w : World) (b o : Nat) (r : Gr) : Prop :=
  ∃ ra rc, w.cell? ⟨b, o, none⟩ = some (.int .i64 r.number) ∧ w.cell? ⟨b, o + 1, none⟩ = some (.string r.too) ∧ w.cell? ⟨b, o + 2, none⟩ = some (.string r.by_) ∧ w.cell? ⟨b, o + 3, none⟩ = some (.slice ra r.rule.verbs.length rc) ∧ w.cell? ⟨b, o + 4, none⟩ = some (.string r.rule.kind) ∧ w.cell? ⟨b, o + 5, none⟩ = some (.string r.rule.team) ∧ w.cell? ⟨b, o + 6, none⟩ = some (.string r.rule.pre) ∧ NumsAt w (.slice ra r.rule.verbs.length rc) r.rule.verbs ∧ r.sized

theorem GrC.later {w w' : World} {b o : Nat} {r : Gr} (h : GrC w b o r) (hb : Below w.heap.size w w') (hlt : b < w.heap.size) : GrC w' b o r := by
  obtain ⟨ra, rc, c0, c1, c2, c3, c4, c5, c6, hn⟩ := h
  have q : ∀ j, w'.cell? ⟨b, j, none⟩ = w.cell? ⟨b, j, none⟩ := fun j => hb.cell (p := ⟨b, j, none⟩) hlt
  exact ⟨ra, rc, (q _).trans c0, (q _).trans c1, (q _).trans c2, (q _).trans c3, (q _).trans c4, (q _).trans c5, (q _).trans c6, ⟨hn.1.later hb, hn.2⟩⟩

def GrsAt (w : World) (v : Value) (rs : List Gr) : Prop :=
  (∃ a cap, v = .slice a 0 cap ∧ rs = []) ∨ ∃ b off cap, v = .slice (some ⟨b, off, none⟩) rs.length cap ∧ b < w.heap.size ∧ rs.length ≤ maxLen ∧ ∀ i, i < rs.length → GrC w b (off + i * 7) (rs.getD i Gr.none)

theorem GrsAt.later {w w' : World} {v : Value} {rs : List Gr} (h : GrsAt w v rs) (hb : Below w.heap.size w w') : GrsAt w' v rs := by
  rcases h with h | ⟨b, off, cap, rfl, h1, h2, h3⟩
  · exact Or.inl h
  · exact Or.inr ⟨b, off, cap, rfl, Nat.lt_of_lt_of_le h1 hb.size, h2, fun i hi => (h3 i hi).later hb h1⟩

def Gr.small (r : Gr) : Prop := r.rule.verbs.length ≤ 1048576

/-- One in the block B of the call's own; its lists behind B. -/
def OwnGr (w : World) (B o : Nat) (r : Gr) : Prop :=
  ∃ b1, (B < b1) ∧ w.cell? ⟨B, o, none⟩ = some (.int .i64 r.number) ∧ w.cell? ⟨B, o + 1, none⟩ = some (.string r.too) ∧ w.cell? ⟨B, o + 2, none⟩ = some (.string r.by_) ∧ w.cell? ⟨B, o + 3, none⟩ = some (.slice (some ⟨b1, 0, none⟩) r.rule.verbs.length r.rule.verbs.length) ∧ w.cell? ⟨B, o + 4, none⟩ = some (.string r.rule.kind) ∧ w.cell? ⟨B, o + 5, none⟩ = some (.string r.rule.team) ∧ w.cell? ⟨B, o + 6, none⟩ = some (.string r.rule.pre) ∧ IntsIn w b1 r.rule.verbs ∧ r.sized

theorem OwnGr.later {w w' : World} {b o : Nat} {r : Gr} (h : OwnGr w b o r) (hb : Below w.heap.size w w') (hlt : b < w.heap.size) : OwnGr w' b o r := by
  obtain ⟨b1, h0, c0, c1, c2, c3, c4, c5, c6, hn⟩ := h
  have q : ∀ j, w'.cell? ⟨b, j, none⟩ = w.cell? ⟨b, j, none⟩ := fun j => hb.cell (p := ⟨b, j, none⟩) hlt
  exact ⟨b1, h0, (q _).trans c0, (q _).trans c1, (q _).trans c2, (q _).trans c3, (q _).trans c4, (q _).trans c5, (q _).trans c6, ⟨hn.1.later hb, hn.2⟩⟩

structure GrsIn (w : World) (B : Nat) (rs : List Gr) : Prop where
  lt : B < w.heap.size
  len : rs.length ≤ 1048576
  at_ : ∀ i, i < rs.length → OwnGr w B (i * 7) (rs.getD i Gr.none)
  own : OwnBlk w B 133 (rs.length * 7)

theorem GrsIn.later {w w' : World} {B : Nat} {rs : List Gr} (h : GrsIn w B rs) (hb : Below w.heap.size w w') : GrsIn w' B rs :=
  ⟨Nat.lt_of_lt_of_le h.lt hb.size, h.len, fun i hi => (h.at_ i hi).later hb h.lt, h.own.later hb⟩

theorem OwnGr.puts {w : World} {B o : Nat} {r : Gr} (h : OwnGr w B o r) (o' : Nat) (vs : List Value) (ho : o + 7 ≤ o') : OwnGr (puts w B o' 0 vs) B o r := by
  obtain ⟨b1, h0, c0, c1, c2, c3, c4, c5, c6, hn⟩ := h
  have c : ∀ j, j < o' → (Ytliaibdbcaglnaa.puts w B o' 0 vs).cell? ⟨B, j, none⟩ = w.cell? ⟨B, j, none⟩ := fun j hj => puts_other B o' B j vs w 0 (by omega)
  exact ⟨b1, h0, (c _ (by omega)).trans c0, (c _ (by omega)).trans c1, (c _ (by omega)).trans c2, (c _ (by omega)).trans c3, (c _ (by omega)).trans c4, (c _ (by omega)).trans c5, (c _ (by omega)).trans c6, ⟨hn.1.putsB h0 o' vs, hn.2⟩⟩

theorem OwnGr.sc {w : World} {B o p : Nat} {r : Gr} (h : OwnGr w B o r) (hp : p < B) (j : Nat) (v : Value) : OwnGr (w.setCell ⟨p, j, none⟩ v) B o r := by
  obtain ⟨b1, h0, c0, c1, c2, c3, c4, c5, c6, hn⟩ := h
  have c : ∀ q, (w.setCell ⟨p, j, none⟩ v).cell? ⟨B, q, none⟩ = w.cell? ⟨B, q, none⟩ := fun q => sc_ne _ _ _ _ _ _ (by omega)
  have h0 := (show p < b1 by omega)
  exact ⟨b1, by omega, (c _).trans c0, (c _).trans c1, (c _).trans c2, (c _).trans c3, (c _).trans c4, (c _).trans c5, (c _).trans c6, ⟨hn.1.putsB h0 j [v], hn.2⟩⟩

theorem GrsIn.sc {w : World} {B p : Nat} {rs : List Gr} (h : GrsIn w B rs) (hp : p < B) (j : Nat) (v : Value) : GrsIn (w.setCell ⟨p, j, none⟩ v) B rs :=
  ⟨by rw [sc_size]; exact h.lt, h.len, fun i hi => (h.at_ i hi).sc hp j v, h.own.sc_other (by omega) _ _⟩

theorem own_put_gr {w : World} {B : Nat} {t : TypeId} {n : Nat} (hO : OwnBlk w B t n) (o : Nat) (ho : o + 7 ≤ n) (r : Gr) (b1 : Nat) (h0 : B < b1) (hn : IntsIn w b1 r.rule.verbs ∧ r.sized) :
    OwnGr (puts w B o 0 [.int .i64 r.number, .string r.too, .string r.by_, .slice (some ⟨b1, 0, none⟩) r.rule.verbs.length r.rule.verbs.length, .string r.rule.kind, .string r.rule.team, .string r.rule.pre]) B o r := by
  have c := fun i hi => puts_at o [.int .i64 r.number, .string r.too, .string r.by_, .slice (some ⟨b1, 0, none⟩) r.rule.verbs.length r.rule.verbs.length, .string r.rule.kind, .string r.rule.team, .string r.rule.pre] w 0 hO (by simp; omega) i hi
  exact ⟨b1, h0, c 0 (by simp), c 1 (by simp), c 2 (by simp), c 3 (by simp), c 4 (by simp), c 5 (by simp), c 6 (by simp), ⟨hn.1.putsB h0 o _, hn.2⟩⟩

theorem Try.info133 : (Try.prog.info? 133).map (fun i => (i.zero, i.size, i.bytes)) = some (some (.agg #[.int .i64 0, .string ByteArray.empty, .string ByteArray.empty, .slice none 0 0, .string ByteArray.empty, .string ByteArray.empty, .string ByteArray.empty]), 7, 112) := by kernel_rfl

theorem make_gr (n : Nat) (h : n ≤ 1048576) : ∃ cs : Array Value, cs.size = n * 7 ∧ ∀ W : World,
    (Instr.makeSlice 53 (.int .i64 (n : Int)) (.int .i64 (n : Int))).run Try.prog W = .ok (.slice (some ⟨W.heap.size, 0, none⟩) n n) (W.alloc (.cells cs 133)) := by
  obtain ⟨i, hi, hzz⟩ := Option.map_eq_some_iff.1 Try.info133
  simp only [Prod.mk.injEq] at hzz
  obtain ⟨hz, hs, hb⟩ := hzz
  refine ⟨madeCells (Value.cells (.agg #[.int .i64 0, .string ByteArray.empty, .string ByteArray.empty, .slice none 0 0, .string ByteArray.empty, .string ByteArray.empty, .string ByteArray.empty])) (n * 7), size_madeCells _ _, fun W => ?_⟩
  have hr := run_make (P := Try.prog) W 53 133 i _ Try.underlying53 hi hz .i64 .i64 n n (by omega) (Int.le_refl _) (by rw [hb]; omega) (by omega)
  simp only [Int.toNat_natCast, hs] at hr
  exact hr

set_option maxHeartbeats 1000000 in
theorem toGrs_row (b off cap : Nat) (rs : List Gr) (w : World) (hl : rs.length ≤ 1048576) (hsm : ∀ r ∈ rs, r.small) (hb : b < w.heap.size)
    (hc : ∀ i, i < rs.length → GrC w b (off + i * 7) (rs.getD i Gr.none)) :
    Calls Try.prog 40 #[.slice (some ⟨b, off, none⟩) rs.length cap] w fun e w' => e = .returned (.slice (some ⟨w.heap.size, 0, none⟩) rs.length rs.length) ∧ Below w.heap.size w w' ∧ OwnBlk w' w.heap.size 133 (rs.length * 7) ∧
      ∀ i, i < rs.length → OwnGr w' w.heap.size (i * 7) (rs.getD i Gr.none) := by
  obtain ⟨cs, hcs, hmk⟩ := make_gr rs.length hl
  have HC : Hid (∀ i, i < rs.length → GrC w b (off + i * 7) (rs.getD i Gr.none) ∧ (rs.getD i Gr.none).small) := by
    intro i hi
    refine ⟨hc i hi, ?_⟩
    have e : rs.getD i Gr.none = rs[i] := by simp [hi]
    rw [e]
    exact hsm _ (List.getElem_mem hi)
  clear hc hsm
  go_enter Try.func40, Try.ntmps40
  go_wp2
  go_loopw [4] (fun i wr => ∃ k : Nat, k ≤ rs.length ∧ i = .int .i64 k ∧ Below w.heap.size w wr ∧ OwnBlk wr w.heap.size 133 (rs.length * 7) ∧ ∀ i, i < k → OwnGr wr w.heap.size (i * 7) (rs.getD i Gr.none)) (fun i _ => rs.length - (intOf i).toNat)
  case atStart => exact ⟨0, Nat.zero_le _, rfl, blw_alloc (Below.refl _ _) _, OwnBlk.alloc w cs 133 _ hcs, fun i hi => absurd hi (Nat.not_lt_zero i)⟩
  case round =>
    obtain ⟨k, hk, rfl, hB, hO, hall⟩ := hrel
    have HA : Hid (∀ i, i < k → OwnGr wr w.heap.size (i * 7) (rs.getD i Gr.none)) := hall
    have HO : Hid (OwnBlk wr w.heap.size 133 (rs.length * 7)) := hO
    clear hall hmk hcs hO
    by_cases hlt : k < rs.length
    · have hf := (HC.out k hlt).1.later hB hb
      obtain ⟨r, hm⟩ : ∃ r, r = rs.getD k Gr.none := ⟨_, rfl⟩
      rw [← hm] at hf
      obtain ⟨ra, rc, c0, c1, c2, c3, c4, c5, c6, hn⟩ := hf
      have HX : Hid ((NumsAt wr (.slice ra r.rule.verbs.length rc) r.rule.verbs ∧ r.sized) ∧ r = rs.getD k Gr.none ∧ r.small) := ⟨hn, hm, by rw [hm]; exact (HC.out k hlt).2⟩
      clear hm hn
      go_wp2_with fail
      refine (toGr ra rc r wr HX.out.2.2 HX.out.1.1).mono ?_
      rintro e w2 ⟨⟨b1, rfl, hle, hii⟩, hb2⟩
      have hB2 := blw_trans hB hb2
      have hO2 := HO.out.later hb2
      have HP : Hid (∀ v, v = [.int .i64 r.number, .string r.too, .string r.by_, .slice (some ⟨b1, 0, none⟩) r.rule.verbs.length r.rule.verbs.length, .string r.rule.kind, .string r.rule.team, .string r.rule.pre] →
          Below w.heap.size w (puts w2 w.heap.size (k * 7) 0 v) ∧ OwnBlk (puts w2 w.heap.size (k * 7) 0 v) w.heap.size 133 (rs.length * 7) ∧ ∀ i, i < k + 1 → OwnGr (puts w2 w.heap.size (k * 7) 0 v) w.heap.size (i * 7) (rs.getD i Gr.none)) := by
        intro v hv
        subst hv
        refine ⟨puts_below (a := w) _ (Nat.le_refl _) _ _ _ hB2, puts_own _ _ _ _ hO2, fun i hi => ?_⟩
        by_cases hik : i < k
        · exact ((HA.out i hik).later hb2 HO.out.lt).puts (k * 7) _ (by omega)
        · obtain rfl : i = k := by omega
          rw [← HX.out.2.1]
          exact own_put_gr hO2 (i * 7) (by omega) r b1 (Nat.lt_of_lt_of_le HO.out.lt hle) ⟨hii, HX.out.1.2⟩
      clear c0 c1 c2 c3 c4 c5 c6 HX hii hle
      have hfz := hO2.frozen
      obtain ⟨v0, o0⟩ := hO2.cell (k * 7) (by omega)
      obtain ⟨v1, o1⟩ := hO2.cell (k * 7 + 1) (by omega)
      obtain ⟨v2, o2⟩ := hO2.cell (k * 7 + 2) (by omega)
      obtain ⟨v3, o3⟩ := hO2.cell (k * 7 + 3) (by omega)
      obtain ⟨v4, o4⟩ := hO2.cell (k * 7 + 4) (by omega)
      obtain ⟨v5, o5⟩ := hO2.cell (k * 7 + 5) (by omega)
      obtain ⟨v6, o6⟩ := hO2.cell (k * 7 + 6) (by omega)
      clear hO2 hB2 hb2
      go_wp2
      go_roundw
      case rel => exact ⟨k + 1, by omega, by go_num, (HP.out _ rfl).1, (HP.out _ rfl).2.1, (HP.out _ rfl).2.2⟩
      case measure => simp [intOf]; omega
    · obtain rfl : k = rs.length := by omega
      go_wp2
      go_ret
      exact ⟨rfl, hB, HO.out, HA.out⟩

set_option maxHeartbeats 400000 in
theorem toGrs_nil (a : Option Addr) (cap : Nat) (w : World) :
    Calls Try.prog 40 #[.slice a 0 cap] w fun e w' => e = .returned (.slice (some ⟨w.heap.size, 0, none⟩) 0 0) ∧ ∃ cs : Array Value, cs.size = 0 ∧ w' = w.alloc (.cells cs 133) := by
  obtain ⟨cs, hcs0, hmk0⟩ := make_gr 0 (by omega)
  have hmk : ∀ W : World, (Instr.makeSlice 53 (.int .i64 0) (.int .i64 0)).run Try.prog W = .ok (.slice (some ⟨W.heap.size, 0, none⟩) 0 0) (W.alloc (.cells cs 133)) := hmk0
  clear hmk0
  go_enter Try.func40, Try.ntmps40
  go_wp2
  refine wp_loop_rounds 1 ?_
  rw [rounds_succ]
  go_wp2
  go_ret
  exact ⟨rfl, _, by omega, rfl⟩

theorem toGrs (v : Value) (rs : List Gr) (w : World) (hl : rs.length ≤ 1048576) (hsm : ∀ r ∈ rs, r.small) (h : GrsAt w v rs) :
    Calls Try.prog 40 #[v] w fun e w' => e = .returned (.slice (some ⟨w.heap.size, 0, none⟩) rs.length rs.length) ∧ Below w.heap.size w w' ∧ GrsIn w' w.heap.size rs := by
  rcases h with ⟨a, cap, rfl, rfl⟩ | ⟨b, off, cap, rfl, hb, _, hc⟩
  · refine (toGrs_nil a cap w).mono ?_
    rintro e w' ⟨rfl, cs, hcs, rfl⟩
    exact ⟨rfl, blw_alloc (Below.refl _ _) _, ⟨by simp, by simp, fun i hi => absurd hi (Nat.not_lt_zero i), OwnBlk.alloc w cs _ _ (by simpa using hcs)⟩⟩
  · refine (toGrs_row b off cap rs w hl hsm hb hc).mono ?_
    rintro e w' ⟨rfl, h1, h2, h3⟩
    exact ⟨rfl, h1, h2.lt, hl, h3, h2⟩

set_option maxHeartbeats 2000000 in
theorem eqGrs (B B' : Nat) (rs : List Gr) (w : World) (h : GrsIn w B rs) (h' : GrsIn w B' rs) :
    Calls Try.prog 45 #[.slice (some ⟨B, 0, none⟩) rs.length rs.length, .slice (some ⟨B', 0, none⟩) rs.length rs.length] w fun e w' => e = .returned (.bool true) ∧ Below w.heap.size w w' := by
  have hl := h.len
  have HH : Hid (GrsIn w B rs ∧ GrsIn w B' rs) := ⟨h, h'⟩
  clear h h'
  go_enter Try.func45, Try.ntmps45
  go_wp2
  go_loopw [5] (fun i wr => ∃ k : Nat, k ≤ rs.length ∧ i = .int .i64 k ∧ Below w.heap.size w wr) (fun i _ => rs.length - (intOf i).toNat)
  case atStart => exact ⟨0, Nat.zero_le _, rfl, Below.refl _ _⟩
  case round =>
    obtain ⟨k, hk, rfl, hW⟩ := hrel
    by_cases hlt : k < rs.length
    · have q := (HH.out.1.later hW).at_ k hlt
      have q' := (HH.out.2.later hW).at_ k hlt
      obtain ⟨r, hm⟩ : ∃ r, r = rs.getD k Gr.none := ⟨_, rfl⟩
      rw [← hm] at q q'
      obtain ⟨b1, _, c0, c1, c2, c3, c4, c5, c6, hn⟩ := q
      obtain ⟨b1', _, d0, d1, d2, d3, d4, d5, d6, hn'⟩ := q'
      have HX : Hid (∀ W, Below wr.heap.size wr W → Calls Try.prog 67 #[.agg #[.int .i64 r.number, .string r.too, .string r.by_, .slice (some ⟨b1, 0, none⟩) r.rule.verbs.length r.rule.verbs.length, .string r.rule.kind, .string r.rule.team, .string r.rule.pre], .agg #[.int .i64 r.number, .string r.too, .string r.by_, .slice (some ⟨b1', 0, none⟩) r.rule.verbs.length r.rule.verbs.length, .string r.rule.kind, .string r.rule.team, .string r.rule.pre]] W fun e w' => e = .returned (.bool true) ∧ Below W.heap.size W w') := fun W hW => eqGr b1 b1' r W (hn.1.later hW) (hn'.1.later hW)
      clear hm hn hn'
      go_wp2_with fail
      go_region_with (go_at_call 67; refine (HX.out _ ?_).mono ?_; (repeat (first | exact Below.refl _ _ | refine Below.drew ?_)); rintro e w2 ⟨rfl, hb2⟩)
      all_goals
        go_wp2
        go_roundw
        case rel =>
          refine ⟨k + 1, by omega, by go_num, ?_⟩
          repeat (first | exact blw_trans hW hb2 | exact blw_trans hW.drew hb2 | exact blw_trans hW.drew.drew hb2 | refine Below.drew ?_)
        case measure => simp [intOf]; omega
    · go_wp2
      go_ret
      exact ⟨rfl, hW⟩

theorem small_take_grR {rs : List Gr} {k : Nat} (h : ∀ r ∈ rs.take k, r.small) (hk : k < rs.length) (hs : (rs.getD k Gr.none).small) : ∀ r ∈ rs.take (k + 1), r.small := by
  have e : rs.getD k Gr.none = rs[k] := by simp [hk]
  rw [e] at hs
  intro r hr
  rw [List.take_succ_eq_append_getElem hk, List.mem_append, List.mem_singleton] at hr
  rcases hr with hr | rfl
  · exact h r hr
  · exact hs

set_option maxHeartbeats 1000000 in
theorem szGrs_row (b off cap : Nat) (rs : List Gr) (left : Int) (w : World) (h0 : 0 ≤ left) (h1 : left ≤ 1048576) (hb : b < w.heap.size) (hl : rs.length ≤ maxLen)
    (hc : ∀ i, i < rs.length → GrC w b (off + i * 7) (rs.getD i Gr.none)) :
    Calls Try.prog 35 #[.slice (some ⟨b, off, none⟩) rs.length cap, .int .i64 left] w fun e w' => (∃ x : Int, e = .returned (.int .i64 x) ∧ szP ((rs.length : Int) ≤ left ∧ ∀ r ∈ rs, r.small) left x) ∧ Below w.heap.size w w' := by
  unfold maxLen at hl
  have HC : Hid (∀ i, i < rs.length → GrC w b (off + i * 7) (rs.getD i Gr.none)) := hc
  obtain ⟨P, hP⟩ : ∃ P : Prop, P = ((rs.length : Int) ≤ left ∧ ∀ r ∈ rs, r.small) := ⟨_, rfl⟩
  have HP : Hid (P = ((rs.length : Int) ≤ left ∧ ∀ r ∈ rs, r.small)) := hP
  rw [← hP]
  clear hc hP
  by_cases hneg : left < (rs.length : Int)
  · go_enter Try.func35, Try.ntmps35
    go_wp2
    go_ret
    exact ⟨⟨_, rfl, by unfold szP; refine ⟨by omega, by omega, fun h => by omega⟩⟩, Below.refl _ _⟩
  · go_enter Try.func35, Try.ntmps35
    go_wp2
    go_loopw [1, 5] (fun l i wr => ∃ (k : Nat) (x : Int), k ≤ rs.length ∧ i = .int .i64 k ∧ l = .int .i64 x ∧ 0 ≤ x ∧ x ≤ left ∧ (∀ r ∈ rs.take k, r.small) ∧ Below w.heap.size w wr) (fun _ i _ => rs.length - (intOf i).toNat)
    case atStart => exact ⟨0, _, Nat.zero_le _, rfl, rfl, by omega, by omega, fun r hr => by simp at hr, Below.refl _ _⟩
    case round =>
      obtain ⟨k, x, hk, rfl, rfl, x0, x1, hsm, hB⟩ := hrel
      have HS : Hid (∀ r ∈ rs.take k, r.small) := hsm
      clear hsm
      by_cases hlt : k < rs.length
      · have hf := (HC.out k hlt).later hB hb
        obtain ⟨r, hm⟩ : ∃ r, r = rs.getD k Gr.none := ⟨_, rfl⟩
        rw [← hm] at hf
        obtain ⟨ra, rc, c0, c1, c2, c3, c4, c5, c6, hn⟩ := hf
        have HM : Hid (r = rs.getD k Gr.none ∧ (NumsAt wr (.slice ra r.rule.verbs.length rc) r.rule.verbs ∧ r.sized)) := ⟨hm, hn⟩
        clear hm hn
        go_wp2_with fail
        refine (szGr ra rc r x wr x0 (by omega) HM.out.2.2).mono ?_
        rintro e w2 ⟨⟨x', rfl, hx⟩, hb2⟩
        have HX : Hid (szP (r.small) x x') := hx
        have q1 := hx.1
        have q2 := hx.2.1
        have hB2 := blw_trans hB hb2
        clear hb2 c0 c1 c2 c3 c4 c5 c6 hx
        by_cases c2 : x' < 0
        · go_wp2
          go_ret
          exact ⟨⟨_, rfl, by unfold szP; exact ⟨by omega, by omega, fun h => by omega⟩⟩, hB2⟩
        · have HN : Hid (∀ r ∈ rs.take (k + 1), r.small) := small_take_grR HS.out hlt (by rw [← HM.out.1]; exact HX.out.2.2 (by omega))
          go_wp2
          go_roundw
          case rel => exact ⟨k + 1, _, by omega, by go_num, rfl, by omega, by omega, HN.out, hB2⟩
          case measure => simp [intOf]; omega
      · have HQ : Hid P := by
          show P
          rw [HP.out]
          have := HS.out
          rw [List.take_of_length_le (by omega)] at this
          exact ⟨by omega, this⟩
        go_wp2
        go_ret
        exact ⟨⟨_, rfl, by unfold szP; exact ⟨by omega, by omega, fun _ => HQ.out⟩⟩, hB⟩

set_option maxHeartbeats 400000 in
theorem szGrs_nil (a : Option Addr) (cap : Nat) (left : Int) (w : World) (h0 : 0 ≤ left) (h1 : left ≤ 1048576) :
    Calls Try.prog 35 #[.slice a 0 cap, .int .i64 left] w fun e w' => e = .returned (.int .i64 left) ∧ w = w' := by
  go_enter Try.func35, Try.ntmps35
  go_wp2
  refine wp_loop_rounds 1 ?_
  rw [rounds_succ]
  go_wp2
  go_ret
  exact ⟨Pl.ret_int (by omega), rfl⟩

theorem szGrs (v : Value) (rs : List Gr) (left : Int) (w : World) (h0 : 0 ≤ left) (h1 : left ≤ 1048576) (h : GrsAt w v rs) :
    Calls Try.prog 35 #[v, .int .i64 left] w fun e w' => (∃ x : Int, e = .returned (.int .i64 x) ∧ szP ((rs.length : Int) ≤ left ∧ ∀ r ∈ rs, r.small) left x) ∧ Below w.heap.size w w' := by
  rcases h with ⟨a, cap, rfl, rfl⟩ | ⟨b, off, cap, rfl, hb, hl, hc⟩
  · refine (szGrs_nil a cap left w h0 h1).mono ?_
    rintro e w' ⟨rfl, rfl⟩
    exact ⟨⟨_, rfl, by unfold szP; exact ⟨by omega, by omega, fun _ => ⟨by simpa using h0, fun r hr => by simp at hr⟩⟩⟩, Below.refl _ _⟩
  · exact szGrs_row b off cap rs left w h0 h1 hb hl hc


end Go.Proofs.Ytliaibdbcaglnaa
