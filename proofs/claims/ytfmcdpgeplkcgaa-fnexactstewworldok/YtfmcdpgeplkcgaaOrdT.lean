/-
  The order of keys; lists in order; what a valid book is, part by part.
-/
import Derived.Test.YtfmcdpgeplkcgaaPgN
namespace Go.Proofs.Ytfmcdpgeplkcgaa
open Go.RowKit Go.Deep

theorem less_irrefl : ∀ l : List UInt8, Op.bytesLess l l = false
  | [] => rfl
  | x :: l => by unfold Op.bytesLess; simp [less_irrefl l]

/-- A comparison that is a strict order, 0 where two are the same. -/
structure LinCmp {α : Type} (c : α → α → Int) : Prop where
  z : ∀ x y, c x y = 0 ↔ x = y
  t : ∀ x y u, c x y < 0 → c y u < 0 → c x u < 0
  f : ∀ x y, 0 < c x y → c y x < 0

theorem bl_trans : ∀ x y u : List UInt8, Op.bytesLess x y = true → Op.bytesLess y u = true → Op.bytesLess x u = true
  | [], [], _, h, _ => by simp [Op.bytesLess] at h
  | _ :: _, [], _, h, _ => by simp [Op.bytesLess] at h
  | [], _ :: _, [], _, h => by simp [Op.bytesLess] at h
  | [], _ :: _, _ :: _, _, _ => rfl
  | _ :: _, _ :: _, [], _, h => by simp [Op.bytesLess] at h
  | a :: x, b :: y, c :: u, h1, h2 => by
    simp only [Op.bytesLess, Bool.or_eq_true, Bool.and_eq_true, decide_eq_true_eq, beq_iff_eq] at h1 h2 ⊢
    rcases h1 with h1 | ⟨h1, h1'⟩ <;> rcases h2 with h2 | ⟨h2, h2'⟩
    · exact Or.inl (UInt8.lt_trans h1 h2)
    · subst h2; exact Or.inl h1
    · subst h1; exact Or.inl h2
    · subst h1 h2; exact Or.inr ⟨rfl, bl_trans x y u h1' h2'⟩

theorem bl_total : ∀ x y : List UInt8, Op.bytesLess x y = false → x ≠ y → Op.bytesLess y x = true
  | [], [], _, h => absurd rfl h
  | _ :: _, [], _, _ => rfl
  | [], _ :: _, h, _ => by simp [Op.bytesLess] at h
  | a :: x, b :: y, h, hne => by
    simp only [Op.bytesLess, Bool.or_eq_false_iff, Bool.and_eq_false_iff, decide_eq_false_iff_not, beq_eq_false_iff_ne] at h
    simp only [Op.bytesLess, Bool.or_eq_true, Bool.and_eq_true, decide_eq_true_eq, beq_iff_eq]
    by_cases e : a = b
    · subst e
      refine Or.inr ⟨rfl, bl_total x y ?_ ?_⟩
      · rcases h.2 with h' | h'
        · exact absurd rfl h'
        · exact h'
      · intro e; subst e; exact hne rfl
    · refine Or.inl ?_
      have h1 := h.1
      rcases Nat.lt_trichotomy a.toNat b.toNat with q | q | q
      · exact absurd (UInt8.lt_iff_toNat_lt.2 q) h1
      · exact absurd (UInt8.toNat_inj.1 q) e
      · exact UInt8.lt_iff_toNat_lt.2 q

def kc (a b : List UInt8) : Int := if Op.bytesLess a b then -1 else if a == b then 0 else 1

theorem kc_neg (a b : List UInt8) : kc a b < 0 ↔ Op.bytesLess a b = true := by
  unfold kc; split
  · simp_all
  · split <;> simp_all

theorem kc_lin : LinCmp kc where
  z x y := by
    unfold kc
    constructor
    · intro h
      split at h
      · cases h
      · split at h
        · rename_i e; simpa using e
        · cases h
    · intro e
      subst e
      rw [less_irrefl]; simp
  t x y u h1 h2 := (kc_neg _ _).2 (bl_trans x y u ((kc_neg _ _).1 h1) ((kc_neg _ _).1 h2))
  f x y h := by
    refine (kc_neg _ _).2 (bl_total x y ?_ ?_)
    · cases e : Op.bytesLess x y
      · rfl
      · have := (kc_neg x y).2 e; omega
    · intro e
      subst e
      unfold kc at h
      rw [less_irrefl] at h; simp at h

def lex {α β : Type} (c : α → α → Int) (d : β → β → Int) (x y : α × β) : Int := if c x.1 y.1 = 0 then d x.2 y.2 else c x.1 y.1

theorem lex_lin {α β : Type} {c : α → α → Int} {d : β → β → Int} (hc : LinCmp c) (hd : LinCmp d) : LinCmp (lex c d) where
  z x y := by
    obtain ⟨a, b⟩ := x
    obtain ⟨a', b'⟩ := y
    unfold lex
    simp only [Prod.mk.injEq]
    split
    · rename_i h
      have := (hc.z _ _).1 h
      rw [hd.z]
      exact ⟨fun h => ⟨this, h⟩, fun h => h.2⟩
    · rename_i h
      exact ⟨fun e => absurd e h, fun e => absurd ((hc.z _ _).2 e.1) h⟩
  t x y u h1 h2 := by
    unfold lex at h1 h2 ⊢
    split at h1
    · rename_i e1
      have e1' := (hc.z _ _).1 e1
      split at h2
      · rename_i e2
        have e2' := (hc.z _ _).1 e2
        rw [if_pos ((hc.z _ _).2 (e1'.trans e2'))]
        exact hd.t _ _ _ h1 h2
      · rename_i e2
        rw [e1', if_neg e2]; exact h2
    · rename_i e1
      split at h2
      · rename_i e2
        have e2' := (hc.z _ _).1 e2
        rw [← e2', if_neg e1]; exact h1
      · have := hc.t _ _ _ h1 h2
        rw [if_neg (by omega)]; exact this
  f x y h := by
    unfold lex at h ⊢
    split at h
    · rename_i e
      have e' := (hc.z _ _).1 e
      rw [if_pos ((hc.z _ _).2 e'.symm)]
      exact hd.f _ _ h
    · have := hc.f _ _ h
      rw [if_neg (by omega)]; exact this

/-- A row of keys in order. -/
theorem row_lt {α : Type} {c : α → α → Int} (hc : LinCmp c) {g : Nat → α} {n : Nat} (h : ∀ i, i < n - 1 → c (g i) (g (i + 1)) < 0) : ∀ i j, i < j → j < n → c (g i) (g j) < 0 := by
  intro i j hij
  induction j with
  | zero => omega
  | succ j ih =>
    intro hj
    by_cases e : i = j
    · subst e; exact h i (by omega)
    · exact hc.t _ _ _ (ih (by omega) (by omega)) (h j (by omega))

theorem row_ge {α : Type} {c : α → α → Int} (hc : LinCmp c) {g : Nat → α} {n : Nat} (h : ∀ i, i < n - 1 → c (g i) (g (i + 1)) < 0) {t : α} {p : Nat} (hp : 0 ≤ c (g p) t) : ∀ i, p ≤ i → i < n → 0 ≤ c (g i) t := by
  intro i hi hn
  by_cases e : p = i
  · subst e; exact hp
  · have h1 := row_lt hc h p i (by omega) hn
    rcases Int.lt_trichotomy (c (g p) t) 0 with q | q | q
    · omega
    · have := (hc.z _ _).1 q
      rw [this] at h1
      rcases Int.lt_trichotomy (c (g i) t) 0 with r | r | r
      · have := hc.t _ _ _ h1 r
        have := (hc.z t t).2 rfl
        omega
      · omega
      · omega
    · have h2 := hc.f _ _ q
      have h3 := hc.t _ _ _ h2 h1
      rcases Int.lt_trichotomy (c (g i) t) 0 with r | r | r
      · have := hc.t _ _ _ h3 r
        have := (hc.z t t).2 rfl
        omega
      · omega
      · omega

theorem row_hit {α : Type} {c : α → α → Int} (hc : LinCmp c) {g : Nat → α} {n : Nat} (h : ∀ i, i < n - 1 → c (g i) (g (i + 1)) < 0) {t : α} {p i : Nat} (hp : ∀ j, j < p → c (g j) t < 0) (hp' : p < n → 0 ≤ c (g p) t) (hi : i < n) (he : g i = t) : p = i := by
  have hz : c (g i) t = 0 := (hc.z _ _).2 he
  rcases Nat.lt_trichotomy p i with q | q | q
  · have h1 := row_lt hc h p i q hi
    rw [he] at h1
    have := hp' (by omega)
    omega
  · exact q
  · have := hp i q; omega


/-- The place of a key: all ahead of it are less. -/
theorem num_lin : LinCmp numCmp where
  z x y := by unfold numCmp; split <;> (try split) <;> omega
  t x y u h1 h2 := by
    unfold numCmp at h1 h2 ⊢
    split at h1 <;> (try split at h1) <;> split at h2 <;> (try split at h2) <;> split <;> (try split) <;> omega
  f x y h := by
    unfold numCmp at h ⊢
    split at h <;> (try split at h) <;> split <;> (try split) <;> omega

theorem cp_lex (a : ByteArray) (n : Int) (b : ByteArray) (m : Int) : cpCmp a n b m = lex kc numCmp (a.toList, n) (b.toList, m) := rfl
theorem key_kc (a b : ByteArray) : keyCmp a b = kc a.toList b.toList := rfl

theorem asc_apart {α : Type} {c : α → α → Int} (hc : LinCmp c) {g : Nat → α} {n : Nat} (h : ∀ i, i < n - 1 → c (g i) (g (i + 1)) < 0) {i j : Nat} (hi : i < n) (hj : j < n) (e : g i = g j) : i = j := by
  rcases Nat.lt_trichotomy i j with q | q | q
  · have := row_lt hc h i j q hj; have := (hc.z _ _).2 e; omega
  · exact q
  · have := row_lt hc h j i q hi; have := (hc.z _ _).2 e.symm; omega

theorem ascSv_iff (l : List Sv) : ascSv l = true ↔ ∀ i, i < l.length - 1 → kc ((fun i => (l.getD i Sv.none).nm.toList) i) ((fun i => (l.getD i Sv.none).nm.toList) (i + 1)) < 0 := by
  unfold ascSv
  rw [allTo_iff]
  exact ⟨fun h i hi => of_decide_eq_true (h i hi), fun h i hi => decide_eq_true (h i hi)⟩
theorem ascBt_iff (l : List Bt) : ascBt l = true ↔ ∀ i, i < l.length - 1 → kc ((fun i => (l.getD i Bt.none).nm.toList) i) ((fun i => (l.getD i Bt.none).nm.toList) (i + 1)) < 0 := by
  unfold ascBt
  rw [allTo_iff]
  exact ⟨fun h i hi => of_decide_eq_true (h i hi), fun h i hi => decide_eq_true (h i hi)⟩
theorem ascCp_iff (l : List Cp) : ascCp l = true ↔ ∀ i, i < l.length - 1 → lex kc numCmp ((fun i => ((l.getD i Cp.none).svc.toList, (l.getD i Cp.none).num)) i) ((fun i => ((l.getD i Cp.none).svc.toList, (l.getD i Cp.none).num)) (i + 1)) < 0 := by
  unfold ascCp
  rw [allTo_iff]
  exact ⟨fun h i hi => of_decide_eq_true (h i hi), fun h i hi => decide_eq_true (h i hi)⟩

theorem apart_of {K : SBk} (h1 : ascSv K.svcs = true) (h2 : ascBt K.bts = true) : Apart K :=
  ⟨fun _ _ hi hj e => asc_apart kc_lin ((ascSv_iff _).1 h1) hi hj (congrArg ByteArray.toList e), fun _ _ hi hj e => asc_apart kc_lin ((ascBt_iff _).1 h2) hi hj (congrArg ByteArray.toList e)⟩
theorem next_of {K : SBk} (h : svsAll K = true) : ∀ i, i < K.svcs.length → 1 ≤ (K.svcs.getD i Sv.none).next ∧ (K.svcs.getD i Sv.none).next ≤ 1000000 := by
  intro i hi
  have q := (allTo_iff _ _).1 h i hi
  simp only [svOk, inB, Bool.and_eq_true, decide_eq_true_eq] at q
  omega

theorem keyCmp_neg (a b : ByteArray) : decide (keyCmp a b < 0) = Pl.less a b := by
  rw [Bool.eq_iff_iff, decide_eq_true_eq]; exact kc_neg _ _
theorem cpCmp_neg (a b : Cp) : decide (cpCmp a.svc a.num b.svc b.num < 0) = ahead a b := by
  rw [Bool.eq_iff_iff, decide_eq_true_eq]
  unfold ahead
  rw [Bool.or_eq_true, Bool.and_eq_true, decide_eq_true_eq]
  rw [cp_lex]
  unfold lex
  show (if kc a.svc.toList b.svc.toList = 0 then numCmp a.num b.num else kc a.svc.toList b.svc.toList) < 0 ↔ Op.bytesLess a.svc.toList b.svc.toList = true ∨ (a.svc.toList == b.svc.toList) = true ∧ a.num < b.num
  split
  · rename_i e
    have e' := (kc_lin.z _ _).1 e
    rw [e', less_irrefl]
    simp only [Bool.false_eq_true, false_or, beq_self_eq_true, true_and]
    unfold numCmp; split <;> (try split) <;> omega
  · rename_i e
    rw [kc_neg]
    constructor
    · exact Or.inl
    · rintro (h | ⟨h, _⟩)
      · exact h
      · exact absurd ((kc_lin.z _ _).2 (by simpa using h)) e

theorem all_both (p : Nat → Bool) (q : Nat → Nat → Bool) : ∀ n, allTo (fun i => p i && (decide (i = 0) || q (i - 1) i)) n = (allTo (fun i => q i (i + 1)) (n - 1) && allTo p n)
  | 0 => rfl
  | n + 1 => by
    rw [allTo, all_both p q n, allTo]
    cases n with
    | zero => simp [allTo]
    | succ m =>
      have e1 : allTo (fun i => q i (i + 1)) (m + 1 + 1 - 1) = (allTo (fun i => q i (i + 1)) m && q m (m + 1)) := rfl
      have e2 : decide (m + 1 = 0) = false := by simp
      have e3 : m + 1 - 1 = m := rfl
      rw [e1, e2, e3, Bool.false_or]
      generalize allTo p (m + 1) = z
      cases allTo (fun i => q i (i + 1)) m <;> cases z <;> cases p (m + 1) <;> cases q m (m + 1) <;> rfl

theorem svsOk_eq (K : SBk) : svsOk K = (ascSv K.svcs && svsAll K) := by
  unfold svsOk ascSv svsAll
  rw [all_both (fun i => svOk (K.svcs.getD i Sv.none) K.now) (fun i j => Pl.less (K.svcs.getD i Sv.none).nm (K.svcs.getD j Sv.none).nm)]
  congr 1
  exact allTo_congr fun i _ => (keyCmp_neg _ _).symm
theorem btsOk_eq (K : SBk) : btsOk K = (ascBt K.bts && btsAll K) := by
  unfold btsOk ascBt btsAll
  rw [all_both (fun i => snmOk (K.bts.getD i Bt.none).nm) (fun i j => Pl.less (K.bts.getD i Bt.none).nm (K.bts.getD j Bt.none).nm)]
  congr 1
  exact allTo_congr fun i _ => (keyCmp_neg _ _).symm
theorem cpsOk_eq (K : SBk) : cpsOk K = (ascCp K.cps && cpsAll K) := by
  unfold cpsOk ascCp cpsAll
  rw [all_both (fun i => cpOk K (K.cps.getD i Cp.none)) (fun i j => ahead (K.cps.getD i Cp.none) (K.cps.getD j Cp.none))]
  congr 1
  exact allTo_congr fun i _ => (cpCmp_neg _ _).symm

/-- The four checks. -/
def chk (K : SBk) : Nat → Bool
  | 0 => inB K.now 0 1000000
  | 1 => decide (K.svcs.length ≤ 8) && ascSv K.svcs && svsAll K
  | 2 => decide (K.bts.length ≤ 6) && ascBt K.bts && btsAll K
  | _ => decide (K.cps.length ≤ 200) && ascCp K.cps && cpsAll K
theorem sbOk_eq (K : SBk) : sbOk K = allTo (chk K) 4 := by
  unfold sbOk
  rw [svsOk_eq, btsOk_eq, cpsOk_eq]
  simp only [allTo, chk, Bool.true_and]
  cases inB K.now 0 1000000 <;> cases decide (K.svcs.length ≤ 8) <;> cases decide (K.bts.length ≤ 6) <;> cases decide (K.cps.length ≤ 200) <;> cases ascSv K.svcs <;> cases svsAll K <;> cases ascBt K.bts <;> cases btsAll K <;> cases ascCp K.cps <;> cases cpsAll K <;> rfl

end Go.Proofs.Ytfmcdpgeplkcgaa
