/-
  Walks: a mend by the places of its fields.
-/
import Derived.Test.YtliaibdbcaglnaaGreatMemN
import Derived.Test.YtliaibdbcaglnaaGreatWalkME
import Derived.Deep.DeepCutAuto
import Derived.Deep.RegionWith
namespace Go.Proofs.YtliaibdbcaglnaaGreat
open Go.RowKit Go.Deep

def needsOf (fs : List Fld) (m : Mnd) : List Need :=
  (if Pl.isEmp m.whn = true then [] else [⟨nameAt fs m.whn, false, m.is_⟩]) ++ (if Pl.isEmp m.frm = true then [] else [⟨nameAt fs m.frm, true, ByteArray.empty⟩])
def mngOf (fs : List Fld) (m : Mnd) : Mng := ⟨nameAt fs m.field, needsOf fs m, m.put, if Pl.isEmp m.frm = true then 0 else nameAt fs m.frm⟩

theorem Tryz.info187 : (Tryz.prog.info? 187).map (fun i => (i.zero, i.size, i.bytes)) = some (some (.agg #[.int .i64 0, .bool false, .string ByteArray.empty]), 3, 32) := by kernel_rfl

structure MPre (w0 wr : World) (m : Mnd) : Prop where
  bel : Below w0.heap.size w0 wr
  box : OwnBlk wr w0.heap.size 91 6
  cells : MndIs wr w0.heap.size 0 m
  res : OwnBlk wr (w0.heap.size + 1) 185 4

theorem MPre.later {w0 wr w' : World} {m : Mnd} (h : MPre w0 wr m) (hb : Below wr.heap.size wr w') : MPre w0 w' m :=
  ⟨blw_trans h.bel hb, h.box.later hb, h.cells.later hb h.box.lt, h.res.later hb⟩

theorem MPre.start (w : World) (m : Mnd) (hs : m.sized) :
    MPre w ((w.alloc (.cells #[.string m.kind, .string m.field, .string m.whn, .string m.is_, .string m.put, .string m.frm] 91)).alloc (.cells #[.int .i64 0, .slice none 0 0, .string ⟨#[]⟩, .int .i64 0] 185)) m := by
  have hO := OwnBlk.alloc w #[.string m.kind, .string m.field, .string m.whn, .string m.is_, .string m.put, .string m.frm] 91 6 rfl
  have hR := OwnBlk.alloc (w.alloc (.cells #[.string m.kind, .string m.field, .string m.whn, .string m.is_, .string m.put, .string m.frm] 91)) #[.int .i64 0, .slice none 0 0, .string ⟨#[]⟩, .int .i64 0] 185 4 rfl
  refine ⟨blw_alloc (blw_alloc (Below.refl _ _) _) _, hO.past _, ⟨by simp, by simp, by simp, by simp, by simp, by simp, hs⟩, ?_⟩
  simpa using hR

theorem MPre.out {w0 wr : World} {m : Mnd} (h : MPre w0 wr m) (f : Nat) :
    MInv w0 (wr.alloc (.cells #[.int .i64 (f : Nat), .slice none 0 0, .string m.put, .int .i64 0] 185)) wr.heap.size m ⟨f, [], m.put, 0⟩ (.slice none 0 0) := by
  have hb : Below wr.heap.size wr (wr.alloc (.cells #[.int .i64 (f : Nat), .slice none 0 0, .string m.put, .int .i64 0] 185)) := blw_alloc (Below.refl _ _) _
  have h1 := h.later hb
  exact ⟨h1.bel, h1.box, h1.cells, h1.res, h.res.lt, OwnBlk.alloc wr _ 185 4 rfl, by simp, by simp, by simp, by simp, World.ownsRow_nil _ _ _ _⟩

theorem MPre.put {w0 wr : World} {m : Mnd} (h : MPre w0 wr m) (f B : Nat) (hB : w0.heap.size + 1 < B) (ho : OwnBlk wr B 185 4) :
    MInv w0 (puts wr B 0 0 [.int .i64 (f : Nat), .slice none 0 0, .string m.put, .int .i64 0]) B m ⟨f, [], m.put, 0⟩ (.slice none 0 0) := by
  have c : ∀ o, (puts wr B 0 0 [.int .i64 (f : Nat), .slice none 0 0, .string m.put, .int .i64 0]).cell? ⟨w0.heap.size, o, none⟩ = wr.cell? ⟨w0.heap.size, o, none⟩ := fun o => puts_other B 0 _ o _ wr 0 (by omega)
  have q := h.cells
  have d := fun i hi => puts_at 0 [.int .i64 (f : Nat), .slice none 0 0, .string m.put, .int .i64 0] wr 0 ho (by simp) i hi
  exact ⟨puts_below (a := w0) _ (by omega) _ _ _ h.bel, own_puts_other 0 (by omega) _ wr 0 h.box, ⟨(c _).trans q.c0, (c _).trans q.c1, (c _).trans q.c2, (c _).trans q.c3, (c _).trans q.c4, (c _).trans q.c5, q.sized⟩, own_puts_other 0 (by omega) _ wr 0 h.res, hB, puts_own 0 _ _ _ ho, d 0 (by simp), d 1 (by simp), d 2 (by simp), d 3 (by simp), World.ownsRow_nil _ _ _ _⟩

theorem MInv.fin {w0 wr : World} {B : Nat} {m : Mnd} {x : Mng} {v : Value} (h : MInv w0 wr B m x v) (vs : List Value) (hv : vs = [.int .i64 (x.field : Nat), v, .string x.put, .int .i64 (x.frm : Nat)]) :
    (∀ i, i < 4 → (puts wr (w0.heap.size + 1) 0 0 vs).cell? ⟨w0.heap.size + 1, i, none⟩ = vs[i]?) ∧ NeedsOwn (puts wr (w0.heap.size + 1) 0 0 vs) w0.heap.size v x.needs ∧ Below w0.heap.size w0 (puts wr (w0.heap.size + 1) 0 0 vs) := by
  have hl : vs.length = 4 := by rw [hv]; rfl
  refine ⟨fun i hi => ?_, ?_, puts_below (a := w0) 0 (by omega) _ _ _ h.bel⟩
  · have := puts_at 0 vs wr 0 h.res (by omega) i (by omega)
    simpa using this
  · have : ∀ (us : List Value) (W : World) (j : Nat), W.ownsRow (w0.heap.size + 2) 187 3 v x.needs.length (needsCells x.needs) → (puts W (w0.heap.size + 1) 0 j us).ownsRow (w0.heap.size + 2) 187 3 v x.needs.length (needsCells x.needs) := by
      intro us
      induction us with
      | nil => intro W j h; exact h
      | cons u us ih => intro W j h; exact ih _ _ (owns_sc h (by omega) _ _)
    exact owns_low (this vs wr 0 h.needs) (by omega)

set_option maxRecDepth 8000 in
set_option maxHeartbeats 4000000 in
theorem mendingOf (fb : Nat) (fs : List Fld) (m : Mnd) (w : World) (h : FldsIn w fb fs) (hm : m.sized) (h0 : nameAt fs m.field < fs.length) (h1 : Pl.isEmp m.whn = false → nameAt fs m.whn < fs.length) (h2 : Pl.isEmp m.frm = false → nameAt fs m.frm < fs.length) :
    Calls Tryz.prog 124 #[.slice (some ⟨fb, 0, none⟩) fs.length fs.length, .agg #[.string m.kind, .string m.field, .string m.whn, .string m.is_, .string m.put, .string m.frm]] w fun e w' =>
      (∃ a n c, e = .returned (.agg #[.int .i64 ((mngOf fs m).field : Nat), .slice a n c, .string m.put, .int .i64 ((mngOf fs m).frm : Nat)]) ∧ NeedsOwn w' w.heap.size (.slice a n c) (needsOf fs m)) ∧ Below w.heap.size w w' := by
  have HF : Hid (∀ k W, Below w.heap.size w W → nameAt fs k < fs.length → Calls Tryz.prog 157 #[.slice (some ⟨fb, 0, none⟩) fs.length fs.length, .string k] W fun e w' => e = .returned (.int .i64 (nameAt fs k : Nat)) ∧ Below W.heap.size W w') := by
    intro k W hW hk
    refine (fieldPlace fb fs k W (h.later hW)).mono ?_
    rintro e w' ⟨⟨r, rfl, hr⟩, hb⟩
    rw [if_pos hk] at hr
    subst hr
    exact ⟨rfl, hb⟩
  have HP0 : Hid (MPre w ((w.alloc (.cells #[.string m.kind, .string m.field, .string m.whn, .string m.is_, .string m.put, .string m.frm] 91)).alloc (.cells #[.int .i64 0, .slice none 0 0, .string ⟨#[]⟩, .int .i64 0] 185)) m) := MPre.start w m hm
  have HN : Hid (nameAt fs m.field < fs.length ∧ (Pl.isEmp m.whn = false → nameAt fs m.whn < fs.length) ∧ (Pl.isEmp m.frm = false → nameAt fs m.frm < fs.length)) := ⟨h0, h1, h2⟩
  obtain ⟨i0, hi, hz0, hz1, hz2⟩ := info_parts Tryz.info187
  clear h hm h0 h1 h2
  obtain ⟨pf, hpf⟩ : ∃ pf, pf = nameAt fs m.field := ⟨_, rfl⟩
  have HPF : Hid (pf = nameAt fs m.field) := hpf
  clear hpf
  go_enter Tryz.func124, Tryz.ntmps124
  go_upto_region 1 with fail
  obtain ⟨W0, hW0⟩ : ∃ W0, W0 = ((w.alloc (.cells #[.string m.kind, .string m.field, .string m.whn, .string m.is_, .string m.put, .string m.frm] 91)).alloc (.cells #[.int .i64 0, .slice none 0 0, .string ⟨#[]⟩, .int .i64 0] 185)) := ⟨_, rfl⟩
  rw [← hW0] at HP0 ⊢
  clear hW0
  have e1 : W0.cell? ⟨w.heap.size, 1, none⟩ = some (.string m.field) := HP0.out.cells.c1
  have e4 : W0.cell? ⟨w.heap.size, 4, none⟩ = some (.string m.put) := HP0.out.cells.c4
  have hl0 : w.heap.size < W0.heap.size := HP0.out.box.lt
  have HB0 : Hid (Below w.heap.size w W0) := HP0.out.bel
  go_cut [5] (fun s wx => ∃ B, s = .pointer (some ⟨B, 0, none⟩) ∧ MInv w wx B m ⟨pf, [], m.put, 0⟩ (.slice none 0 0))
  case first =>
    have HF' : Hid (∀ W, Below w.heap.size w W → Calls Tryz.prog 157 #[.slice (some ⟨fb, 0, none⟩) fs.length fs.length, .string m.field] W fun e w' => e = .returned (.int .i64 (pf : Nat)) ∧ Below W.heap.size W w') := by
      intro W hW
      have := HF.out m.field W hW HN.out.1
      rw [← HPF.out] at this
      exact this
    clear HF
    go_region_with (go_at_call 157; refine (HF'.out _ ?_).mono ?_; (repeat (first | exact HB0.out | refine blw_alloc ?_ _ | refine Below.drew ?_)); rintro e w2 ⟨rfl, hb2⟩; have HP2 : Hid (MPre w w2 m) := HP0.out.later (blw_trans (by repeat (first | exact Below.refl _ _ | refine blw_alloc ?_ _ | refine Below.drew ?_)) hb2); have d4 : w2.cell? ⟨w.heap.size, 4, none⟩ = some (.string m.put) := HP2.out.cells.c4; have hl2 : w.heap.size < w2.heap.size := HP2.out.box.lt; (try have oA : Hid (OwnBlk w2 W0.heap.size 185 4) := OwnBlk.later (by exact OwnBlk.alloc W0 _ 185 4 rfl) hb2); (try (have hfA := oA.out.frozen; have zA := oA.out.lt; obtain ⟨y0, hy0⟩ := oA.out.cell 0 (by omega); obtain ⟨y1, hy1⟩ := oA.out.cell 1 (by omega); obtain ⟨y2, hy2⟩ := oA.out.cell 2 (by omega); obtain ⟨y3, hy3⟩ := oA.out.cell 3 (by omega))); clear hb2)
    all_goals (go_wp2_with fail; go_meet)
    all_goals
      refine ⟨_, rfl, ?_⟩
      first
      | exact HP2.out.out pf
      | exact HP2.out.put pf _ HP0.out.res.lt oA.out
  case rest =>
  obtain ⟨B, rfl, hM⟩ := hcut
  rename World => w1
  have HM : Hid (MInv w w1 B m ⟨pf, [], m.put, 0⟩ (.slice none 0 0)) := hM
  clear hM e1 e4 hl0 HB0 HP0
  have q1 := HM.out.c1
  have q0 := HM.out.c0
  have q2 := HM.out.c2
  have q3 := HM.out.c3
  have m2 : w1.cell? ⟨w.heap.size, 2, none⟩ = some (.string m.whn) := HM.out.cells.c2
  have m3 : w1.cell? ⟨w.heap.size, 3, none⟩ = some (.string m.is_) := HM.out.cells.c3
  have m5 : w1.cell? ⟨w.heap.size, 5, none⟩ = some (.string m.frm) := HM.out.cells.c5
  have zx := HM.out.box.lt
  have zr := HM.out.res.lt
  have zB := HM.out.own.lt
  have fB := HM.out.own.frozen
  have fr := HM.out.res.frozen
  obtain ⟨y0, hy0⟩ := HM.out.res.cell 0 (by omega)
  obtain ⟨y1, hy1⟩ := HM.out.res.cell 1 (by omega)
  obtain ⟨y2, hy2⟩ := HM.out.res.cell 2 (by omega)
  obtain ⟨y3, hy3⟩ := HM.out.res.cell 3 (by omega)
  have hBn : B ≠ w.heap.size := by have := HM.out.lt; omega
  have hBr : B ≠ w.heap.size + 1 := by have := HM.out.lt; omega
  cases hw : m.whn.toList.isEmpty
  · have HW : Hid (nameAt fs m.whn < fs.length) := HN.out.2.1 hw
    obtain ⟨pw, hpw⟩ : ∃ pw, pw = nameAt fs m.whn := ⟨_, rfl⟩
    go_wp2_with fail
    refine (HF.out m.whn _ HM.out.bel HW.out).mono ?_
    rintro e w2 ⟨rfl, hb2⟩
    rw [← hpw]
    have HPW : Hid (pw = nameAt fs m.whn) := hpw
    have HM2 : Hid (MInv w w2 B m ⟨pf, [], m.put, 0⟩ (.slice none 0 0)) := HM.out.later hb2
    clear hb2 hpw q0 q1 q2 q3 m2 m3 m5 zx zr zB fB fr hy0 hy1 hy2 hy3 HM
    have q1 := HM2.out.c1
    have q0 := HM2.out.c0
    have q2 := HM2.out.c2
    have q3 := HM2.out.c3
    have m2 : w2.cell? ⟨w.heap.size, 2, none⟩ = some (.string m.whn) := HM2.out.cells.c2
    have m3 : w2.cell? ⟨w.heap.size, 3, none⟩ = some (.string m.is_) := HM2.out.cells.c3
    have m5 : w2.cell? ⟨w.heap.size, 5, none⟩ = some (.string m.frm) := HM2.out.cells.c5
    have zx := HM2.out.box.lt
    have zr := HM2.out.res.lt
    have zB := HM2.out.own.lt
    have fB := HM2.out.own.frozen
    have fr := HM2.out.res.frozen
    obtain ⟨y0, hy0⟩ := HM2.out.res.cell 0 (by omega)
    obtain ⟨y1, hy1⟩ := HM2.out.res.cell 1 (by omega)
    obtain ⟨y2, hy2⟩ := HM2.out.res.cell 2 (by omega)
    obtain ⟨y3, hy3⟩ := HM2.out.res.cell 3 (by omega)
    go_wp2_with (at_builtin; refine wpList_append_own _ rfl _ _ 183 rfl (w.heap.size + 2) 187 i0 (.agg #[.int .i64 0, .bool false, .string ByteArray.empty]) 3 32 Tryz.underlying183 hi hz0 hz1 hz2 rfl (by decide) (.slice none 0 0) 0 (needsCells []) rfl ?c0a ⟨w2.heap.size, 0, none⟩ 1 1 (needCells ⟨pw, false, m.is_⟩) rfl ?c1a ?c2a ?c3a ?c4a ?c5a ?c6a ?_)
    case c0a => exact World.ownsRow_nil _ _ _ _
    case c1a => rfl
    case c2a =>
      intro j u hj
      match j, hj with
      | 0, hj => simp [needCells] at hj; subst hj; simp [Addr.add]
      | 1, hj => simp [needCells] at hj; subst hj; simp [Addr.add]
      | 2, hj => simp [needCells] at hj; subst hj; simp [Addr.add]
      | k + 3, hj => simp [needCells] at hj
    case c3a => intro u hu; simp [needCells] at hu; rcases hu with rfl | rfl | rfl <;> rfl
    case c4a => unfold maxLen; omega
    case c5a => omega
    case c6a => first | omega | (simp; omega)
    intro v' w3 hown hgrow _
    obtain ⟨a1, d1, hv1'⟩ := owns_slice hown
    have hv1 : v' = .slice a1 1 d1 := hv1'
    clear hv1'
    subst hv1
    have hbx : Below w2.heap.size w2 (w2.alloc (.cells #[.int .i64 (pw : Nat), .bool false, .string m.is_] 187)) := blw_alloc (Below.refl _ _) _
    have HM3 : Hid (MInv w (w3.setCell ⟨B, 1, none⟩ (.slice a1 1 d1)) B m ⟨pf, [⟨pw, false, m.is_⟩], m.put, 0⟩ (.slice a1 1 d1)) := HM2.out.add hbx hown hgrow
    have hmid := HM2.out.mid hbx hgrow
    have g1 := hmid.2
    have gf := hmid.1.frozen
    have gz := hmid.1.lt
    clear hmid hown hgrow q0 q1 q2 q3 m2 m3 m5 zx zr zB fB fr hy0 hy1 hy2 hy3 HM2 hbx
    go_upto_region 5 with fail
    obtain ⟨W3, hW3⟩ : ∃ W3, W3 = w3.setCell ⟨B, 1, none⟩ (.slice a1 1 d1) := ⟨_, rfl⟩
    rw [← hW3] at HM3 ⊢
    clear hW3 g1 gf gz
    have q1 := HM3.out.c1
    have q0 := HM3.out.c0
    have q2 := HM3.out.c2
    have q3 := HM3.out.c3
    have m2 : W3.cell? ⟨w.heap.size, 2, none⟩ = some (.string m.whn) := HM3.out.cells.c2
    have m3 : W3.cell? ⟨w.heap.size, 3, none⟩ = some (.string m.is_) := HM3.out.cells.c3
    have m5 : W3.cell? ⟨w.heap.size, 5, none⟩ = some (.string m.frm) := HM3.out.cells.c5
    have zx := HM3.out.box.lt
    have zr := HM3.out.res.lt
    have zB := HM3.out.own.lt
    have fB := HM3.out.own.frozen
    have fr := HM3.out.res.frozen
    obtain ⟨y0, hy0⟩ := HM3.out.res.cell 0 (by omega)
    obtain ⟨y1, hy1⟩ := HM3.out.res.cell 1 (by omega)
    obtain ⟨y2, hy2⟩ := HM3.out.res.cell 2 (by omega)
    obtain ⟨y3, hy3⟩ := HM3.out.res.cell 3 (by omega)
    cases hf : m.frm.toList.isEmpty
    · have HFR : Hid (nameAt fs m.frm < fs.length) := HN.out.2.2 hf
      obtain ⟨pr, hpr⟩ : ∃ pr, pr = nameAt fs m.frm := ⟨_, rfl⟩
      go_wp2_with fail
      refine (HF.out m.frm _ HM3.out.bel HFR.out).mono ?_
      rintro e w4 ⟨rfl, hb4⟩
      rw [← hpr]
      have HPR : Hid (pr = nameAt fs m.frm) := hpr
      have HM4 : Hid (MInv w w4 B m ⟨pf, [⟨pw, false, m.is_⟩], m.put, 0⟩ (.slice a1 1 d1)) := HM3.out.later hb4
      have HM5 : Hid (MInv w (w4.setCell ⟨B, 3, none⟩ (.int .i64 (pr : Nat))) B m ⟨pf, [⟨pw, false, m.is_⟩], m.put, pr⟩ (.slice a1 1 d1)) := HM4.out.setFrm pr
      clear hb4 hpr q0 q1 q2 q3 m2 m3 m5 zx zr zB fB fr hy0 hy1 hy2 hy3 HM3
      have q1 := HM4.out.c1
      have q0 := HM4.out.c0
      have q2 := HM4.out.c2
      have q3 := HM4.out.c3
      have m2 : w4.cell? ⟨w.heap.size, 2, none⟩ = some (.string m.whn) := HM4.out.cells.c2
      have m3 : w4.cell? ⟨w.heap.size, 3, none⟩ = some (.string m.is_) := HM4.out.cells.c3
      have m5 : w4.cell? ⟨w.heap.size, 5, none⟩ = some (.string m.frm) := HM4.out.cells.c5
      have zx := HM4.out.box.lt
      have zr := HM4.out.res.lt
      have zB := HM4.out.own.lt
      have fB := HM4.out.own.frozen
      have fr := HM4.out.res.frozen
      obtain ⟨y0, hy0⟩ := HM4.out.res.cell 0 (by omega)
      obtain ⟨y1, hy1⟩ := HM4.out.res.cell 1 (by omega)
      obtain ⟨y2, hy2⟩ := HM4.out.res.cell 2 (by omega)
      obtain ⟨y3, hy3⟩ := HM4.out.res.cell 3 (by omega)
      go_upto_region 7 with fail
      obtain ⟨W5, hW5⟩ : ∃ W5, W5 = w4.setCell ⟨B, 3, none⟩ (.int .i64 (pr : Nat)) := ⟨_, rfl⟩
      rw [← hW5] at HM5 ⊢
      clear hW5 q0 q1 q2 q3 m2 m3 m5 zx zr zB fB fr hy0 hy1 hy2 hy3 HM4
      have q1 := HM5.out.c1
      have q0 := HM5.out.c0
      have q2 := HM5.out.c2
      have q3 := HM5.out.c3
      have m2 : W5.cell? ⟨w.heap.size, 2, none⟩ = some (.string m.whn) := HM5.out.cells.c2
      have m3 : W5.cell? ⟨w.heap.size, 3, none⟩ = some (.string m.is_) := HM5.out.cells.c3
      have m5 : W5.cell? ⟨w.heap.size, 5, none⟩ = some (.string m.frm) := HM5.out.cells.c5
      have zx := HM5.out.box.lt
      have zr := HM5.out.res.lt
      have zB := HM5.out.own.lt
      have fB := HM5.out.own.frozen
      have fr := HM5.out.res.frozen
      obtain ⟨y0, hy0⟩ := HM5.out.res.cell 0 (by omega)
      obtain ⟨y1, hy1⟩ := HM5.out.res.cell 1 (by omega)
      obtain ⟨y2, hy2⟩ := HM5.out.res.cell 2 (by omega)
      obtain ⟨y3, hy3⟩ := HM5.out.res.cell 3 (by omega)
      go_wp2_with (at_builtin; refine wpList_append_own _ rfl _ _ 183 rfl (w.heap.size + 2) 187 i0 (.agg #[.int .i64 0, .bool false, .string ByteArray.empty]) 3 32 Tryz.underlying183 hi hz0 hz1 hz2 rfl (by decide) (.slice a1 1 d1) 1 (needsCells [⟨pw, false, m.is_⟩]) rfl ?c0b ⟨W5.heap.size, 0, none⟩ 1 1 (needCells ⟨pr, true, ByteArray.empty⟩) rfl ?c1b ?c2b ?c3b ?c4b ?c5b ?c6b ?_)
      case c0b => exact owns_later HM5.out.needs (blw_alloc (Below.refl _ _) _)
      case c1b => rfl
      case c2b =>
        intro j u hj
        match j, hj with
        | 0, hj => simp [needCells] at hj; subst hj; simp
        | 1, hj => simp [needCells] at hj; subst hj; simp
        | 2, hj => simp [needCells] at hj; subst hj; simp; rfl
        | k + 3, hj => simp [needCells] at hj
      case c3b => intro u hu; simp [needCells] at hu; rcases hu with rfl | rfl | rfl <;> rfl
      case c4b => unfold maxLen; omega
      case c6b => first | omega | (simp; omega)
      intro v' w6 hown hgrow _
      obtain ⟨a6, d6, hv6'⟩ := owns_slice hown
      have hv6 : v' = .slice a6 2 d6 := hv6'
      clear hv6'
      subst hv6
      have hbx : Below W5.heap.size W5 (W5.alloc (.cells #[.int .i64 (pr : Nat), .bool true, .string ⟨#[]⟩] 187)) := blw_alloc (Below.refl _ _) _
      have HM6 : Hid (MInv w (w6.setCell ⟨B, 1, none⟩ (.slice a6 2 d6)) B m ⟨pf, [⟨pw, false, m.is_⟩] ++ [⟨pr, true, ByteArray.empty⟩], m.put, pr⟩ (.slice a6 2 d6)) := HM5.out.add hbx hown hgrow
      have hmid := HM5.out.mid hbx hgrow
      have g1 := hmid.2
      have gf := hmid.1.frozen
      have gz := hmid.1.lt
      clear hmid hown hgrow q0 q1 q2 q3 m2 m3 m5 zx zr zB fB fr hy0 hy1 hy2 hy3 HM5 hbx
      go_upto_region 8 with fail
      obtain ⟨W6, hW6⟩ : ∃ W6, W6 = w6.setCell ⟨B, 1, none⟩ (.slice a6 2 d6) := ⟨_, rfl⟩
      rw [← hW6] at HM6 ⊢
      clear hW6 g1 gf gz
      have q1 := HM6.out.c1
      have q0 := HM6.out.c0
      have q2 := HM6.out.c2
      have q3 := HM6.out.c3
      have m2 : W6.cell? ⟨w.heap.size, 2, none⟩ = some (.string m.whn) := HM6.out.cells.c2
      have m3 : W6.cell? ⟨w.heap.size, 3, none⟩ = some (.string m.is_) := HM6.out.cells.c3
      have m5 : W6.cell? ⟨w.heap.size, 5, none⟩ = some (.string m.frm) := HM6.out.cells.c5
      have zx := HM6.out.box.lt
      have zr := HM6.out.res.lt
      have zB := HM6.out.own.lt
      have fB := HM6.out.own.frozen
      have fr := HM6.out.res.frozen
      obtain ⟨y0, hy0⟩ := HM6.out.res.cell 0 (by omega)
      obtain ⟨y1, hy1⟩ := HM6.out.res.cell 1 (by omega)
      obtain ⟨y2, hy2⟩ := HM6.out.res.cell 2 (by omega)
      obtain ⟨y3, hy3⟩ := HM6.out.res.cell 3 (by omega)
      go_wp2
      obtain ⟨r, t1, t2⟩ := HM6.out.fin [.int .i64 (pf : Nat), .slice a6 2 d6, .string m.put, .int .i64 (pr : Nat)] rfl
      have r0 : ((((W6.setCell ⟨w.heap.size + 1, 0, none⟩ (.int .i64 (pf : Nat))).setCell ⟨w.heap.size + 1, 1, none⟩ (.slice a6 2 d6)).setCell ⟨w.heap.size + 1, 2, none⟩ (.string m.put)).setCell ⟨w.heap.size + 1, 3, none⟩ (.int .i64 (pr : Nat))).cell? ⟨w.heap.size + 1, 0, none⟩ = some (.int .i64 (pf : Nat)) := r 0 (by omega)
      have r1 : ((((W6.setCell ⟨w.heap.size + 1, 0, none⟩ (.int .i64 (pf : Nat))).setCell ⟨w.heap.size + 1, 1, none⟩ (.slice a6 2 d6)).setCell ⟨w.heap.size + 1, 2, none⟩ (.string m.put)).setCell ⟨w.heap.size + 1, 3, none⟩ (.int .i64 (pr : Nat))).cell? ⟨w.heap.size + 1, 1, none⟩ = some (.slice a6 2 d6) := r 1 (by omega)
      have r2 : ((((W6.setCell ⟨w.heap.size + 1, 0, none⟩ (.int .i64 (pf : Nat))).setCell ⟨w.heap.size + 1, 1, none⟩ (.slice a6 2 d6)).setCell ⟨w.heap.size + 1, 2, none⟩ (.string m.put)).setCell ⟨w.heap.size + 1, 3, none⟩ (.int .i64 (pr : Nat))).cell? ⟨w.heap.size + 1, 2, none⟩ = some (.string m.put) := r 2 (by omega)
      have r3 : ((((W6.setCell ⟨w.heap.size + 1, 0, none⟩ (.int .i64 (pf : Nat))).setCell ⟨w.heap.size + 1, 1, none⟩ (.slice a6 2 d6)).setCell ⟨w.heap.size + 1, 2, none⟩ (.string m.put)).setCell ⟨w.heap.size + 1, 3, none⟩ (.int .i64 (pr : Nat))).cell? ⟨w.heap.size + 1, 3, none⟩ = some (.int .i64 (pr : Nat)) := r 3 (by omega)
      (try simp at r0 r1 r2 r3)
      refine bodyPost_ret (v := .agg #[.int .i64 (pf : Nat), .slice a6 2 d6, .string m.put, .int .i64 (pr : Nat)]) (by simp only [results, Tryz.results124]; simp [go_sem, r0, r1, r2, r3]) rfl ⟨⟨a6, 2, d6, ?_, ?_⟩, t2⟩
      · simp only [mngOf]; rw [← HPF.out]; simp [Pl.isEmp, hf, HPR.out]
      · have e : needsOf fs m = [⟨pw, false, m.is_⟩] ++ [⟨pr, true, ByteArray.empty⟩] := by simp [needsOf, Pl.isEmp, hw, hf, HPW.out, HPR.out]
        rw [e]; exact t1
    · obtain ⟨pr, hpr⟩ : ∃ pr : Nat, pr = 0 := ⟨_, rfl⟩
      have HPR : Hid (pr = 0) := hpr
      clear hpr
      go_wp2
      obtain ⟨r, t1, t2⟩ := HM3.out.fin [.int .i64 (pf : Nat), .slice a1 1 d1, .string m.put, .int .i64 (0 : Nat)] rfl
      have r0 : ((((W3.setCell ⟨w.heap.size + 1, 0, none⟩ (.int .i64 (pf : Nat))).setCell ⟨w.heap.size + 1, 1, none⟩ (.slice a1 1 d1)).setCell ⟨w.heap.size + 1, 2, none⟩ (.string m.put)).setCell ⟨w.heap.size + 1, 3, none⟩ (.int .i64 (0 : Nat))).cell? ⟨w.heap.size + 1, 0, none⟩ = some (.int .i64 (pf : Nat)) := r 0 (by omega)
      have r1 : ((((W3.setCell ⟨w.heap.size + 1, 0, none⟩ (.int .i64 (pf : Nat))).setCell ⟨w.heap.size + 1, 1, none⟩ (.slice a1 1 d1)).setCell ⟨w.heap.size + 1, 2, none⟩ (.string m.put)).setCell ⟨w.heap.size + 1, 3, none⟩ (.int .i64 (0 : Nat))).cell? ⟨w.heap.size + 1, 1, none⟩ = some (.slice a1 1 d1) := r 1 (by omega)
      have r2 : ((((W3.setCell ⟨w.heap.size + 1, 0, none⟩ (.int .i64 (pf : Nat))).setCell ⟨w.heap.size + 1, 1, none⟩ (.slice a1 1 d1)).setCell ⟨w.heap.size + 1, 2, none⟩ (.string m.put)).setCell ⟨w.heap.size + 1, 3, none⟩ (.int .i64 (0 : Nat))).cell? ⟨w.heap.size + 1, 2, none⟩ = some (.string m.put) := r 2 (by omega)
      have r3 : ((((W3.setCell ⟨w.heap.size + 1, 0, none⟩ (.int .i64 (pf : Nat))).setCell ⟨w.heap.size + 1, 1, none⟩ (.slice a1 1 d1)).setCell ⟨w.heap.size + 1, 2, none⟩ (.string m.put)).setCell ⟨w.heap.size + 1, 3, none⟩ (.int .i64 (0 : Nat))).cell? ⟨w.heap.size + 1, 3, none⟩ = some (.int .i64 (0 : Nat)) := r 3 (by omega)
      (try simp at r0 r1 r2 r3)
      refine bodyPost_ret (v := .agg #[.int .i64 (pf : Nat), .slice a1 1 d1, .string m.put, .int .i64 (0 : Nat)]) (by simp only [results, Tryz.results124]; simp [go_sem, r0, r1, r2, r3]) rfl ⟨⟨a1, 1, d1, ?_, ?_⟩, t2⟩
      · simp only [mngOf]; rw [← HPF.out]; simp [Pl.isEmp, hf]
      · have e : needsOf fs m = [⟨pw, false, m.is_⟩] := by simp [needsOf, Pl.isEmp, hw, hf, HPW.out]
        rw [e]; exact t1
  · obtain ⟨pw, hpw⟩ : ∃ pw : Nat, pw = 0 := ⟨_, rfl⟩
    have HPW : Hid (pw = 0) := hpw
    clear hpw
    go_upto_region 5 with fail
    cases hf : m.frm.toList.isEmpty
    · have HFR : Hid (nameAt fs m.frm < fs.length) := HN.out.2.2 hf
      obtain ⟨pr, hpr⟩ : ∃ pr, pr = nameAt fs m.frm := ⟨_, rfl⟩
      go_wp2_with fail
      refine (HF.out m.frm _ HM.out.bel HFR.out).mono ?_
      rintro e w4 ⟨rfl, hb4⟩
      rw [← hpr]
      have HPR : Hid (pr = nameAt fs m.frm) := hpr
      have HM4 : Hid (MInv w w4 B m ⟨pf, [], m.put, 0⟩ (.slice none 0 0)) := HM.out.later hb4
      have HM5 : Hid (MInv w (w4.setCell ⟨B, 3, none⟩ (.int .i64 (pr : Nat))) B m ⟨pf, [], m.put, pr⟩ (.slice none 0 0)) := HM4.out.setFrm pr
      clear hb4 hpr q0 q1 q2 q3 m2 m3 m5 zx zr zB fB fr hy0 hy1 hy2 hy3 HM
      have q1 := HM4.out.c1
      have q0 := HM4.out.c0
      have q2 := HM4.out.c2
      have q3 := HM4.out.c3
      have m2 : w4.cell? ⟨w.heap.size, 2, none⟩ = some (.string m.whn) := HM4.out.cells.c2
      have m3 : w4.cell? ⟨w.heap.size, 3, none⟩ = some (.string m.is_) := HM4.out.cells.c3
      have m5 : w4.cell? ⟨w.heap.size, 5, none⟩ = some (.string m.frm) := HM4.out.cells.c5
      have zx := HM4.out.box.lt
      have zr := HM4.out.res.lt
      have zB := HM4.out.own.lt
      have fB := HM4.out.own.frozen
      have fr := HM4.out.res.frozen
      obtain ⟨y0, hy0⟩ := HM4.out.res.cell 0 (by omega)
      obtain ⟨y1, hy1⟩ := HM4.out.res.cell 1 (by omega)
      obtain ⟨y2, hy2⟩ := HM4.out.res.cell 2 (by omega)
      obtain ⟨y3, hy3⟩ := HM4.out.res.cell 3 (by omega)
      go_upto_region 7 with fail
      obtain ⟨W5, hW5⟩ : ∃ W5, W5 = w4.setCell ⟨B, 3, none⟩ (.int .i64 (pr : Nat)) := ⟨_, rfl⟩
      rw [← hW5] at HM5 ⊢
      clear hW5 q0 q1 q2 q3 m2 m3 m5 zx zr zB fB fr hy0 hy1 hy2 hy3 HM4
      have q1 := HM5.out.c1
      have q0 := HM5.out.c0
      have q2 := HM5.out.c2
      have q3 := HM5.out.c3
      have m2 : W5.cell? ⟨w.heap.size, 2, none⟩ = some (.string m.whn) := HM5.out.cells.c2
      have m3 : W5.cell? ⟨w.heap.size, 3, none⟩ = some (.string m.is_) := HM5.out.cells.c3
      have m5 : W5.cell? ⟨w.heap.size, 5, none⟩ = some (.string m.frm) := HM5.out.cells.c5
      have zx := HM5.out.box.lt
      have zr := HM5.out.res.lt
      have zB := HM5.out.own.lt
      have fB := HM5.out.own.frozen
      have fr := HM5.out.res.frozen
      obtain ⟨y0, hy0⟩ := HM5.out.res.cell 0 (by omega)
      obtain ⟨y1, hy1⟩ := HM5.out.res.cell 1 (by omega)
      obtain ⟨y2, hy2⟩ := HM5.out.res.cell 2 (by omega)
      obtain ⟨y3, hy3⟩ := HM5.out.res.cell 3 (by omega)
      go_wp2_with (at_builtin; refine wpList_append_own _ rfl _ _ 183 rfl (w.heap.size + 2) 187 i0 (.agg #[.int .i64 0, .bool false, .string ByteArray.empty]) 3 32 Tryz.underlying183 hi hz0 hz1 hz2 rfl (by decide) (.slice none 0 0) 0 (needsCells []) rfl ?c0d ⟨W5.heap.size, 0, none⟩ 1 1 (needCells ⟨pr, true, ByteArray.empty⟩) rfl ?c1d ?c2d ?c3d ?c4d ?c5d ?c6d ?_)
      case c0d => exact owns_later HM5.out.needs (blw_alloc (Below.refl _ _) _)
      case c1d => rfl
      case c2d =>
        intro j u hj
        match j, hj with
        | 0, hj => simp [needCells] at hj; subst hj; simp
        | 1, hj => simp [needCells] at hj; subst hj; simp
        | 2, hj => simp [needCells] at hj; subst hj; simp; rfl
        | k + 3, hj => simp [needCells] at hj
      case c3d => intro u hu; simp [needCells] at hu; rcases hu with rfl | rfl | rfl <;> rfl
      case c4d => unfold maxLen; omega
      case c6d => first | omega | (simp; omega)
      intro v' w6 hown hgrow _
      obtain ⟨a6, d6, hv6'⟩ := owns_slice hown
      have hv6 : v' = .slice a6 1 d6 := hv6'
      clear hv6'
      subst hv6
      have hbx : Below W5.heap.size W5 (W5.alloc (.cells #[.int .i64 (pr : Nat), .bool true, .string ⟨#[]⟩] 187)) := blw_alloc (Below.refl _ _) _
      have HM6 : Hid (MInv w (w6.setCell ⟨B, 1, none⟩ (.slice a6 1 d6)) B m ⟨pf, [] ++ [⟨pr, true, ByteArray.empty⟩], m.put, pr⟩ (.slice a6 1 d6)) := HM5.out.add hbx hown hgrow
      have hmid := HM5.out.mid hbx hgrow
      have g1 := hmid.2
      have gf := hmid.1.frozen
      have gz := hmid.1.lt
      clear hmid hown hgrow q0 q1 q2 q3 m2 m3 m5 zx zr zB fB fr hy0 hy1 hy2 hy3 HM5 hbx
      go_upto_region 8 with fail
      obtain ⟨W6, hW6⟩ : ∃ W6, W6 = w6.setCell ⟨B, 1, none⟩ (.slice a6 1 d6) := ⟨_, rfl⟩
      rw [← hW6] at HM6 ⊢
      clear hW6 g1 gf gz
      have q1 := HM6.out.c1
      have q0 := HM6.out.c0
      have q2 := HM6.out.c2
      have q3 := HM6.out.c3
      have m2 : W6.cell? ⟨w.heap.size, 2, none⟩ = some (.string m.whn) := HM6.out.cells.c2
      have m3 : W6.cell? ⟨w.heap.size, 3, none⟩ = some (.string m.is_) := HM6.out.cells.c3
      have m5 : W6.cell? ⟨w.heap.size, 5, none⟩ = some (.string m.frm) := HM6.out.cells.c5
      have zx := HM6.out.box.lt
      have zr := HM6.out.res.lt
      have zB := HM6.out.own.lt
      have fB := HM6.out.own.frozen
      have fr := HM6.out.res.frozen
      obtain ⟨y0, hy0⟩ := HM6.out.res.cell 0 (by omega)
      obtain ⟨y1, hy1⟩ := HM6.out.res.cell 1 (by omega)
      obtain ⟨y2, hy2⟩ := HM6.out.res.cell 2 (by omega)
      obtain ⟨y3, hy3⟩ := HM6.out.res.cell 3 (by omega)
      go_wp2
      obtain ⟨r, t1, t2⟩ := HM6.out.fin [.int .i64 (pf : Nat), .slice a6 1 d6, .string m.put, .int .i64 (pr : Nat)] rfl
      have r0 : ((((W6.setCell ⟨w.heap.size + 1, 0, none⟩ (.int .i64 (pf : Nat))).setCell ⟨w.heap.size + 1, 1, none⟩ (.slice a6 1 d6)).setCell ⟨w.heap.size + 1, 2, none⟩ (.string m.put)).setCell ⟨w.heap.size + 1, 3, none⟩ (.int .i64 (pr : Nat))).cell? ⟨w.heap.size + 1, 0, none⟩ = some (.int .i64 (pf : Nat)) := r 0 (by omega)
      have r1 : ((((W6.setCell ⟨w.heap.size + 1, 0, none⟩ (.int .i64 (pf : Nat))).setCell ⟨w.heap.size + 1, 1, none⟩ (.slice a6 1 d6)).setCell ⟨w.heap.size + 1, 2, none⟩ (.string m.put)).setCell ⟨w.heap.size + 1, 3, none⟩ (.int .i64 (pr : Nat))).cell? ⟨w.heap.size + 1, 1, none⟩ = some (.slice a6 1 d6) := r 1 (by omega)
      have r2 : ((((W6.setCell ⟨w.heap.size + 1, 0, none⟩ (.int .i64 (pf : Nat))).setCell ⟨w.heap.size + 1, 1, none⟩ (.slice a6 1 d6)).setCell ⟨w.heap.size + 1, 2, none⟩ (.string m.put)).setCell ⟨w.heap.size + 1, 3, none⟩ (.int .i64 (pr : Nat))).cell? ⟨w.heap.size + 1, 2, none⟩ = some (.string m.put) := r 2 (by omega)
      have r3 : ((((W6.setCell ⟨w.heap.size + 1, 0, none⟩ (.int .i64 (pf : Nat))).setCell ⟨w.heap.size + 1, 1, none⟩ (.slice a6 1 d6)).setCell ⟨w.heap.size + 1, 2, none⟩ (.string m.put)).setCell ⟨w.heap.size + 1, 3, none⟩ (.int .i64 (pr : Nat))).cell? ⟨w.heap.size + 1, 3, none⟩ = some (.int .i64 (pr : Nat)) := r 3 (by omega)
      (try simp at r0 r1 r2 r3)
      refine bodyPost_ret (v := .agg #[.int .i64 (pf : Nat), .slice a6 1 d6, .string m.put, .int .i64 (pr : Nat)]) (by simp only [results, Tryz.results124]; simp [go_sem, r0, r1, r2, r3]) rfl ⟨⟨a6, 1, d6, ?_, ?_⟩, t2⟩
      · simp only [mngOf]; rw [← HPF.out]; simp [Pl.isEmp, hf, HPR.out]
      · have e : needsOf fs m = [] ++ [⟨pr, true, ByteArray.empty⟩] := by simp [needsOf, Pl.isEmp, hw, hf, HPR.out]
        rw [e]; exact t1
    · obtain ⟨pr, hpr⟩ : ∃ pr : Nat, pr = 0 := ⟨_, rfl⟩
      have HPR : Hid (pr = 0) := hpr
      clear hpr
      go_wp2
      obtain ⟨r, t1, t2⟩ := HM.out.fin [.int .i64 (pf : Nat), .slice none 0 0, .string m.put, .int .i64 (0 : Nat)] rfl
      have r0 : ((((w1.setCell ⟨w.heap.size + 1, 0, none⟩ (.int .i64 (pf : Nat))).setCell ⟨w.heap.size + 1, 1, none⟩ (.slice none 0 0)).setCell ⟨w.heap.size + 1, 2, none⟩ (.string m.put)).setCell ⟨w.heap.size + 1, 3, none⟩ (.int .i64 (0 : Nat))).cell? ⟨w.heap.size + 1, 0, none⟩ = some (.int .i64 (pf : Nat)) := r 0 (by omega)
      have r1 : ((((w1.setCell ⟨w.heap.size + 1, 0, none⟩ (.int .i64 (pf : Nat))).setCell ⟨w.heap.size + 1, 1, none⟩ (.slice none 0 0)).setCell ⟨w.heap.size + 1, 2, none⟩ (.string m.put)).setCell ⟨w.heap.size + 1, 3, none⟩ (.int .i64 (0 : Nat))).cell? ⟨w.heap.size + 1, 1, none⟩ = some (.slice none 0 0) := r 1 (by omega)
      have r2 : ((((w1.setCell ⟨w.heap.size + 1, 0, none⟩ (.int .i64 (pf : Nat))).setCell ⟨w.heap.size + 1, 1, none⟩ (.slice none 0 0)).setCell ⟨w.heap.size + 1, 2, none⟩ (.string m.put)).setCell ⟨w.heap.size + 1, 3, none⟩ (.int .i64 (0 : Nat))).cell? ⟨w.heap.size + 1, 2, none⟩ = some (.string m.put) := r 2 (by omega)
      have r3 : ((((w1.setCell ⟨w.heap.size + 1, 0, none⟩ (.int .i64 (pf : Nat))).setCell ⟨w.heap.size + 1, 1, none⟩ (.slice none 0 0)).setCell ⟨w.heap.size + 1, 2, none⟩ (.string m.put)).setCell ⟨w.heap.size + 1, 3, none⟩ (.int .i64 (0 : Nat))).cell? ⟨w.heap.size + 1, 3, none⟩ = some (.int .i64 (0 : Nat)) := r 3 (by omega)
      (try simp at r0 r1 r2 r3)
      refine bodyPost_ret (v := .agg #[.int .i64 (pf : Nat), .slice none 0 0, .string m.put, .int .i64 (0 : Nat)]) (by simp only [results, Tryz.results124]; simp [go_sem, r0, r1, r2, r3]) rfl ⟨⟨none, 0, 0, ?_, ?_⟩, t2⟩
      · simp only [mngOf]; rw [← HPF.out]; simp [Pl.isEmp, hf]
      · have e : needsOf fs m = [] := by simp [needsOf, Pl.isEmp, hw, hf]
        rw [e]; exact t1

end Go.Proofs.YtliaibdbcaglnaaGreat
