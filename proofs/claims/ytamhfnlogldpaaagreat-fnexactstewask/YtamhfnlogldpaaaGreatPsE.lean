/-
  Stewards: the end of the first to end, by the program.
-/
import Derived.Test.YtamhfnlogldpaaaGreatRel
import Derived.Test.YtamhfnlogldpaaaGreatPsA
import Derived.Test.YtamhfnlogldpaaaGreatStCo
import Derived.Test.YtamhfnlogldpaaaGreatPut
import Derived.Test.YtamhfnlogldpaaaGreatPsB
import Derived.Test.YtamhfnlogldpaaaGreatPsC
import Derived.Test.YtamhfnlogldpaaaGreatOwV
namespace Go.Proofs.YtamhfnlogldpaaaGreat
open Go.RowKit Go.Deep
namespace RY

/-- What the operation j has yielded. -/
def valOf (l : List Oper) (a : Act) (j : Nat) : Value := match l[j]? with
  | some o => (match o.dst with
    | some k => a.eval (.tmp k)
    | none => undef)
  | none => undef
theorem valOf_at {l : List Oper} {a : Act} {j k : Nat} {o : Oper} (hj : l[j]? = some o) (hd : o.dst = some k) : valOf l a j = a.eval (.tmp k) := by
  unfold valOf; rw [hj]; simp only [hd]
theorem valOf_put {l : List Oper} {a : Act} {i q : Nat} {o : Oper} (hap : apartB l = true) (ho : l[i]? = some o) (hd : o.dst = some q) (hq : q < a.tmps.size) (u : Value) : valOf l (a.put (some q) u) = fun j => if j = i then u else valOf l a j := by
  funext j
  by_cases e : j = i
  · subst e
    rw [if_pos rfl, valOf_at ho hd, put_same _ _ _ hq]
  · rw [if_neg e]
    cases h : l[j]? with
    | none => unfold valOf; rw [h]
    | some o' =>
      cases h' : o'.dst with
      | none => unfold valOf; rw [h]; simp only [h']
      | some k =>
        rw [valOf_at h h', valOf_at h h', put_else _ _ _ _ (fun e2 => e (apart_spec hap h ho (by rw [h', ← e2]) hd))]
theorem up_set {L : Array Bool} {i : Nat} (h : L.getD i true = false) : (fun j => (L.setIfInBounds i true).getD j false) = fun j => (j == i) || L.getD j false := by
  funext j
  by_cases e : j = i
  · subst e; rw [set_here h]; simp
  · have : (L.setIfInBounds i true).getD j false = L.getD j false := by
      simp only [Array.getD_eq_getD_getElem?]
      rw [Array.getElem?_setIfInBounds_ne (fun e2 => e e2.symm)]
    rw [this]; simp [e]

theorem region_T {P : Program} {id : Nat} {Q : Exit → Act → World → Prop} {a0 : Act} {w : World} {l : List Oper} (V : Nat → Value → Prop) (T : (Nat → Bool) → (Nat → Value) → World → Prop) (hm : P.follows .mixedOrders = true)
    (hasc : asc .any l.toArray = true) (hap : apartB l = true) (hpl : plainB l a0.tmps.size = true) (h0 : ∀ vals, T (fun _ => false) vals w.drew)
    (hop : ∀ (up : Nat → Bool) (vals : Nat → Value) (i : Nat) (o : Oper), l[i]? = some o → up i = false → (∀ (j : Nat) (o' : Oper) (e : _), l[j]? = some o' → e ∈ o'.after → Region.binds .any e = true → up j = true → up e.on = true) →
      ∀ (a : Act) (W : World), (∀ k, noDst l k = true → a.eval (.tmp k) = a0.eval (.tmp k)) →
      (∀ (j : Nat) (o' : Oper) (k : Nat), l[j]? = some o' → o'.dst = some k → (∃ e ∈ o.after, e.on = j ∧ Region.binds .any e = true) → up j = true ∧ a.eval (.tmp k) = vals j ∧ V j (vals j)) → T up vals W →
      (∃ u W', (execOp a.eval o).run P W = .ok (.value u) W' ∧ o.dst.isSome = true ∧ V i u ∧ T (fun j => (j == i) || up j) (fun j => if j = i then u else vals j) W') ∨
      (∃ W', (execOp a.eval o).run P W = .ok .skip W' ∧ o.dst = none ∧ T (fun j => (j == i) || up j) vals W'))
    (hend : ∀ (up : Nat → Bool) (vals vs : Nat → Value) (W : World), (∀ i, i < l.length → up i = true) → (∀ (i : Nat) (o : Oper) (k : Nat), l[i]? = some o → o.dst = some k → vs k = vals i ∧ V i (vals i)) → T up vals W → Q .normal (putAll l a0 vs) W) :
    (Code.region id l.toArray true).wp P Q a0 w := by
  refine wp_region_any hm ?_
  refine wpAny_inv (fun L a W => RInv l a0 (fun _ _ => True) (fun j u _ => V j u) L a W ∧ T (fun j => L.getD j false) (valOf l a) W) ?_ ?_ _ _ _ _ ?_ (Closed.none _ (rep_none _)) ?_
  · rintro L a W i ⟨h, hT⟩ hc hi
    obtain ⟨hi1, o, ho0, hall⟩ := mem_ready.1 hi
    have ho : l[i]? = some o := by simpa using ho0
    have hg := (plain_spec hpl ho).1
    rcases hop (fun j => L.getD j false) (valOf l a) i o ho (getD_flip hi1) (fun j o' e hj he hb hu => hc j o' e (by simpa using hj) he hb hu) a W (fun k hk => h.keep hk)
      (fun j o' k hj hk ⟨e, he, hej, hb⟩ => by
        have hu : L.getD j false = true := by rw [← hej]; exact hall e he hb
        exact ⟨hu, (valOf_at hj hk).symm, by rw [valOf_at hj hk]; exact h.new j o' k hj hk hu⟩) hT with ⟨u, W', hr, hd, hV, hT'⟩ | ⟨W', hr, hd, hT'⟩
    · refine wpOp_value ho0 hg hr ⟨h.step hap hpl ho hi1 trivial (fun _ _ x => x) (fun _ => hV), ?_⟩
      obtain ⟨q, hq⟩ := Option.isSome_iff_exists.1 hd
      rw [up_set hi1, hq, valOf_put hap ho hq (by rw [h.sz]; exact (plain_spec hpl ho).2 q hq)]
      exact hT'
    · refine wpOp_skip ho0 hg hr ⟨h.step hap hpl ho hi1 trivial (fun _ _ x => x) (fun hs => by rw [hd] at hs; cases hs), ?_⟩
      rw [up_set hi1, hd, put_none]
      exact hT'
  · rintro L a W ⟨h, hT⟩ hr
    have hall : ∀ i, i < l.length → L.getD i false = true := fun i hi => all_up hr hasc (by simpa using h.len) i (by simpa using hi)
    have lt : ∀ {i : Nat} {o : Oper}, l[i]? = some o → i < l.length := fun hi => (List.getElem?_eq_some_iff.1 hi).1
    have e : a = putAll l a0 (fun k => a.eval (.tmp k)) := by
      have hs : ∀ o ∈ l, ∀ q, o.dst = some q → q < a0.tmps.size := fun o ho q hq => by
        obtain ⟨i, hi⟩ := List.getElem?_of_mem ho
        exact (plain_spec hpl hi).2 q hq
      refine act_ext (by rw [putAll_defers]; exact h.df) (by rw [putAll_size]; exact h.sz) fun k => ?_
      rw [putAll_eval l a0 _ k hs]
      by_cases hk : ∃ o ∈ l, o.dst = some k
      · rw [if_pos hk]
      · rw [if_neg hk]
        refine h.old k fun i o hi hd => absurd ⟨o, List.mem_of_getElem? hi, hd⟩ hk
    have := hend (fun j => L.getD j false) (valOf l a) (fun k => a.eval (.tmp k)) W hall (fun i o k hi hd => ⟨(valOf_at hi hd).symm, by rw [valOf_at hi hd]; exact h.new i o k hi hd (hall i (lt hi))⟩) hT
    rw [← e] at this
    exact this
  · refine ⟨⟨by simp, trivial, rfl, rfl, fun _ _ => rfl, fun i o k hi _ hl => ?_⟩, ?_⟩
    · rw [rep_none] at hl; cases hl
    · have : (fun j => (Array.replicate l.toArray.size false).getD j false) = fun _ => false := by funext j; exact rep_none _ _
      rw [this]
      exact h0 _
  · unfold left
    exact Nat.le_trans List.countP_le_length (by simp)
end RY

end Go.Proofs.YtamhfnlogldpaaaGreat

namespace Go.Proofs.YtamhfnlogldpaaaGreat
open Go.RowKit Go.Deep

/-- The best of the first k copies. -/
def bestC (f : Cp → Cp → Int) (C : List Cp) : Nat → Cp
  | 0 => Cp.none
  | k + 1 => if (decide (k = 0) || decide (f (C.getD k Cp.none) (bestC f C k) < 0)) = true then C.getD k Cp.none else bestC f C k
/-- What is kept while the first to end is looked for. -/
structure FI (w wa wr : World) (b : Cp) : Prop where
  bx : BelX (w.heap.size + 1) wa wr
  fo : OwnBlk wr (w.heap.size + 1) 84 7
  ro : OwnBlk wr w.heap.size 84 7
  at_ : LBox wr (w.heap.size + 1) [.string b.svc, .int .i64 b.num, .int .i64 b.ver, .int .i64 b.image, .int .i64 b.state, .bool b.ending, .string b.berth]
theorem FI.later {w wa wr W : World} {b : Cp} (h : FI w wa wr b) (hb : Below wr.heap.size wr W) : FI w wa W b := ⟨h.bx.on hb, h.fo.later hb, h.ro.later hb, h.at_.later hb⟩
theorem FI.put {w wa wr : World} {b : Cp} (h : FI w wa wr b) (x : Cp) : FI w wa (wr.setCells (w.heap.size + 1) 0 [.string x.svc, .int .i64 x.num, .int .i64 x.ver, .int .i64 x.image, .int .i64 x.state, .bool x.ending, .string x.berth]) x := by
  have hs : (wr.setCells (w.heap.size + 1) 0 [.string x.svc, .int .i64 x.num, .int .i64 x.ver, .int .i64 x.image, .int .i64 x.state, .bool x.ending, .string x.berth]).heap.size = wr.heap.size := by simp [World.setCells, World.setCell]
  refine ⟨h.bx.scs _ _, RY.own_setCells _ 0 wr h.fo, ?_, ⟨by rw [hs]; exact h.at_.lt, World.rangeAt_setCells_same _ _ _ _ (RY.own_there h.fo)⟩⟩
  simp only [World.setCells]
  exact ((((((h.ro.sc_other (by omega) _ _).sc_other (by omega) _ _).sc_other (by omega) _ _).sc_other (by omega) _ _).sc_other (by omega) _ _).sc_other (by omega) _ _).sc_other (by omega) _ _

set_option maxRecDepth 8000 in
set_option maxHeartbeats 8000000 in
theorem stewFirstI (G : Value) (f : Cp → Cp → Int) (C : List Cp) (al : Option Addr) (cl : Nat) (w : World) (hC : CpsV w al C) (hl : C.length ≤ 1048576)
    (hF : ∀ x y W, Below w.heap.size w W → Calls Tryz.prog 100 #[G, .agg #[.string x.svc, .int .i64 x.num, .int .i64 x.ver, .int .i64 x.image, .int .i64 x.state, .bool x.ending, .string x.berth], .agg #[.string y.svc, .int .i64 y.num, .int .i64 y.ver, .int .i64 y.image, .int .i64 y.state, .bool y.ending, .string y.berth]] W fun e w' => e = .returned (.int .i64 (f x y)) ∧ Below W.heap.size W w') :
    Calls Tryz.prog 99 #[.slice al C.length cl, .func (.func 100) #[G] #[]] w fun e w' => (∃ b, b = bestC f C C.length ∧ e = .returned (.tuple #[.agg #[.string b.svc, .int .i64 b.num, .int .i64 b.ver, .int .i64 b.image, .int .i64 b.state, .bool b.ending, .string b.berth], .bool (decide (0 < C.length))])) ∧ Below w.heap.size w w' := by
  have HL := hid hC
  have HF := hid hF
  clear hC hF
  obtain ⟨wa, hwa⟩ : ∃ wa, wa = (w.alloc (.cells #[.string { data := #[] }, .int .i64 0, .int .i64 0, .int .i64 0, .int .i64 0, .bool false, .string { data := #[] }] 84)).alloc (.cells #[.string { data := #[] }, .int .i64 0, .int .i64 0, .int .i64 0, .int .i64 0, .bool false, .string { data := #[] }] 84) := ⟨_, rfl⟩
  have HB : Hid (Below w.heap.size w wa) := by show Below _ _ _; rw [hwa]; exact blw_alloc (blw_alloc (Below.refl _ _) _) _
  have HI0 : Hid (FI w wa wa Cp.none) := by
    show FI _ _ _ _
    rw [hwa]
    exact ⟨BelX.refl _ _, OwnBlk.alloc_at2 _ _ _ _ _ rfl (by simp), (OwnBlk.alloc_at2 _ _ _ _ _ rfl rfl).later (blw_alloc (Below.refl _ _) _), LBox.new _ _ _ _ (by simp)⟩
  go_enter Tryz.func99, Tryz.ntmps99
  go_upto_region 2 with fail
  rw [← hwa]
  clear hwa
  go_wp2
  go_loopw [11] (fun i wr => ∃ (k : Nat), k ≤ C.length ∧ i = .int .i64 k ∧ FI w wa wr (bestC f C k)) (fun i _ => C.length - (intOf i).toNat)
  case atStart => exact ⟨0, Nat.zero_le _, rfl, HI0.out⟩
  case round =>
    obtain ⟨k, hk, rfl, hI⟩ := hrel
    have HI := hid hI
    clear hI
    obtain ⟨b, hb⟩ : ∃ b, b = bestC f C k := ⟨_, rfl⟩
    rw [← hb] at HI
    have HBr : Hid (Below w.heap.size w wr) := HI.out.bx.below HB.out (by omega)
    by_cases hlt : k < C.length
    · obtain ⟨b1, off1, ha1, hbl1, hf1⟩ := (HL.out.later HBr.out).at_ k hlt
      subst ha1
      obtain ⟨x, hx⟩ : ∃ x, x = C.getD k Cp.none := ⟨_, rfl⟩
      rw [← hx] at hf1
      have HS : Hid (bestC f C (k + 1) = if (decide (k = 0) || decide (f x b < 0)) = true then x else b) := by show _ = _; rw [bestC, ← hx, ← hb]
      obtain ⟨e0, e1, e2, e3, e4, e5, e6, _⟩ := hf1
      clear hx hb
      have hm0 : (0 : Int) ≤ (k : Int) := by omega
      have hm3 : (k : Int) < (C.length : Int) := by omega
      obtain ⟨w1, hw1⟩ : ∃ w1, w1 = wr.alloc (.cells #[.string x.svc, .int .i64 x.num, .int .i64 x.ver, .int .i64 x.image, .int .i64 x.state, .bool x.ending, .string x.berth] 84) := ⟨_, rfl⟩
      have hb1 : Below wr.heap.size wr w1 := by rw [hw1]; exact blw_alloc (Below.refl _ _) _
      obtain ⟨q1, hq1⟩ : ∃ q1, q1 = wr.heap.size := ⟨_, rfl⟩
      have HC1 : Hid (LBox w1 q1 [.string x.svc, .int .i64 x.num, .int .i64 x.ver, .int .i64 x.image, .int .i64 x.state, .bool x.ending, .string x.berth]) := by show LBox _ _ _; rw [hw1]; exact LBox.new _ _ _ _ hq1
      have HI1 := hid (HI.out.later hb1)
      have HB1 := hid (blw_trans HBr.out hb1)
      go_upto_region 5 with fail
      rw [← hw1, ← hq1]
      clear hw1 hq1 hb1 HI HBr e0 e1 e2 e3 e4 e5 e6 hbl1
      have cz := HC1.out.lt
      have d0 := HC1.out.get 0 _ rfl
      have d1 := HC1.out.get 1 _ rfl
      have d2 := HC1.out.get 2 _ rfl
      have d3 := HC1.out.get 3 _ rfl
      have d4 := HC1.out.get 4 _ rfl
      have d5 := HC1.out.get 5 _ rfl
      have d6 := HC1.out.get 6 _ rfl
      by_cases k0 : k = 0
      · subst k0
        have HN : Hid (bestC f C 1 = x) := by show _ = _; rw [HS.out]; simp
        clear HS
        have hth := RY.own_there HI1.out.fo
        have HP := hid (HI1.out.put x)
        go_upto_region 6 with fail
        refine wp_region_lit ?_
        refine wpList_load_mid rfl 84 _ rfl q1 0 rfl [.string x.svc, .int .i64 x.num, .int .i64 x.ver, .int .i64 x.image, .int .i64 x.state, .bool x.ending, .string x.berth] _ HC1.out.at_ Tryz.underlying84 rfl (by kernel_rfl) ?_
        refine wpList_store_mid rfl 84 _ _ rfl (w.heap.size + 1) 0 #[.string x.svc, .int .i64 x.num, .int .i64 x.ver, .int .i64 x.image, .int .i64 x.state, .bool x.ending, .string x.berth] rfl rfl hth (by kernel_rfl) (by simp [Value.oneCell']) ?_
        simp only [Act.put, List.setIfInBounds_toArray, List.set_cons_zero, List.set_cons_succ]
        obtain ⟨w9, hw9⟩ : ∃ w9, w9 = w1.setCells (w.heap.size + 1) 0 [.string x.svc, .int .i64 x.num, .int .i64 x.ver, .int .i64 x.image, .int .i64 x.state, .bool x.ending, .string x.berth] := ⟨_, rfl⟩
        rw [← hw9] at HP ⊢
        clear hw9
        go_wp2
        exact ⟨⟨1, by omega, rfl, by rw [HN.out]; exact HP.out⟩, by simp [intOf]; omega⟩
      · have k0' : ((k : Int) == 0) = false := by simp; omega
        have fz := HI1.out.at_.lt
        have g0 := HI1.out.at_.get 0 _ rfl
        have g1 := HI1.out.at_.get 1 _ rfl
        have g2 := HI1.out.at_.get 2 _ rfl
        have g3 := HI1.out.at_.get 3 _ rfl
        have g4 := HI1.out.at_.get 4 _ rfl
        have g5 := HI1.out.at_.get 5 _ rfl
        have g6 := HI1.out.at_.get 6 _ rfl
        go_wp2_with fail
        refine (HF.out x b w1 HB1.out).mono ?_
        rintro e w2 ⟨rfl, hb2⟩
        have HC2 := hid (HC1.out.later hb2)
        have HI2 := hid (HI1.out.later hb2)
        clear hb2 HC1 HI1 cz fz d0 d1 d2 d3 d4 d5 d6 g0 g1 g2 g3 g4 g5 g6
        obtain ⟨r, hr⟩ : ∃ r, r = f x b := ⟨_, rfl⟩
        rw [← hr] at HS ⊢
        clear hr
        by_cases hr0 : r < 0
        · have HN : Hid (bestC f C (k + 1) = x) := by show _ = _; rw [HS.out]; simp [hr0]
          clear HS
          have cz := HC2.out.lt
          have d0 := HC2.out.get 0 _ rfl
          have d1 := HC2.out.get 1 _ rfl
          have d2 := HC2.out.get 2 _ rfl
          have d3 := HC2.out.get 3 _ rfl
          have d4 := HC2.out.get 4 _ rfl
          have d5 := HC2.out.get 5 _ rfl
          have d6 := HC2.out.get 6 _ rfl
          have hth := RY.own_there HI2.out.fo
          have HP := hid (HI2.out.put x)
          go_upto_region 6 with fail
          refine wp_region_lit ?_
          refine wpList_load_mid rfl 84 _ rfl q1 0 rfl [.string x.svc, .int .i64 x.num, .int .i64 x.ver, .int .i64 x.image, .int .i64 x.state, .bool x.ending, .string x.berth] _ HC2.out.at_ Tryz.underlying84 rfl (by kernel_rfl) ?_
          refine wpList_store_mid rfl 84 _ _ rfl (w.heap.size + 1) 0 #[.string x.svc, .int .i64 x.num, .int .i64 x.ver, .int .i64 x.image, .int .i64 x.state, .bool x.ending, .string x.berth] rfl rfl hth (by kernel_rfl) (by simp [Value.oneCell']) ?_
          simp only [Act.put, List.setIfInBounds_toArray, List.set_cons_zero, List.set_cons_succ]
          obtain ⟨w9, hw9⟩ : ∃ w9, w9 = w2.setCells (w.heap.size + 1) 0 [.string x.svc, .int .i64 x.num, .int .i64 x.ver, .int .i64 x.image, .int .i64 x.state, .bool x.ending, .string x.berth] := ⟨_, rfl⟩
          rw [← hw9] at HP ⊢
          clear hw9
          go_wp2
          go_roundw
          case rel => exact ⟨k + 1, by omega, by go_num, by rw [HN.out]; exact HP.out⟩
          case measure => simp [intOf]; omega
        · have HN : Hid (bestC f C (k + 1) = b) := by show _ = _; rw [HS.out]; simp [hr0, k0]
          clear HS
          go_wp2
          go_roundw
          case rel => exact ⟨k + 1, by omega, by go_num, by rw [HN.out]; exact HI2.out⟩
          case measure => simp [intOf]; omega
    · obtain rfl : k = C.length := by omega
      have HE := hid hb
      clear hb
      have fz := HI.out.at_.lt
      have g0 := HI.out.at_.get 0 _ rfl
      have g1 := HI.out.at_.get 1 _ rfl
      have g2 := HI.out.at_.get 2 _ rfl
      have g3 := HI.out.at_.get 3 _ rfl
      have g4 := HI.out.at_.get 4 _ rfl
      have g5 := HI.out.at_.get 5 _ rfl
      have g6 := HI.out.at_.get 6 _ rfl
      have hth := RY.own_there HI.out.ro
      have hrt : World.rangeAt (wr.setCells w.heap.size 0 [.string b.svc, .int .i64 b.num, .int .i64 b.ver, .int .i64 b.image, .int .i64 b.state, .bool b.ending, .string b.berth]) w.heap.size 0 [.string b.svc, .int .i64 b.num, .int .i64 b.ver, .int .i64 b.image, .int .i64 b.state, .bool b.ending, .string b.berth] := World.rangeAt_setCells_same _ _ _ _ hth
      go_wp2_with (refine wpList_store_mid rfl 84 _ _ rfl w.heap.size 0 #[.string b.svc, .int .i64 b.num, .int .i64 b.ver, .int .i64 b.image, .int .i64 b.state, .bool b.ending, .string b.berth] rfl rfl hth (by kernel_rfl) (by simp [Value.oneCell']) ?_)
      refine bodyPost_ret (v := .tuple #[.agg #[.string b.svc, .int .i64 b.num, .int .i64 b.ver, .int .i64 b.image, .int .i64 b.state, .bool b.ending, .string b.berth], .bool (decide (0 < C.length))]) (by simp [results, Tryz.results99, asAddr, run_loadVar_mid (P := Tryz.prog) _ _ _ 84 [.string b.svc, .int .i64 b.num, .int .i64 b.ver, .int .i64 b.image, .int .i64 b.state, .bool b.ending, .string b.berth] _ hrt Tryz.underlying84 rfl (by kernel_rfl)]) rfl ?_
      exact ⟨⟨b, HE.out, rfl⟩, setCells_below HBr.out (Nat.le_refl _) _ _⟩

end Go.Proofs.YtamhfnlogldpaaaGreat

namespace Go.Proofs.YtamhfnlogldpaaaGreat
open Go.RowKit Go.Deep

theorem load_mid_g {P : Program} {ops : Array Oper} {rest : List Oper} {op : Oper} {a : Act} {w : World} {Q : Exit → Act → World → Prop} (hw : Region.wanted op (yielded ops a.tmps) = true) (ty : TypeId) (x : Operand) (ho : op.op = .load ty x)
    (b o : Nat) (hx : a.eval x = .pointer (some ⟨b, o, none⟩)) (cs : List Value) (d : TypeDesc) (hc : w.rangeAt b o cs)
    (hu : P.underlying ty = some d) (hd : d.isRow = true) (hi : (P.info? ty).map (·.size) = some cs.length)
    (h : wpList P ops Q rest (a.put op.dst (.agg cs.toArray)) w) : wpList P ops Q (op :: rest) a w :=
  BigFrame.wpList_want hw fun _ hK => wp_load_mid ty x ho b o hx cs d hc hu hd hi (hK _ _ h)

theorem CpsV.mem {w : World} {a : Option Addr} {C : List Cp} (h : CpsV w a C) : ∀ c ∈ C, c.sized := fun c hc => by
  obtain ⟨i, hi, rfl⟩ := List.getElem_of_mem hc
  obtain ⟨b, off, _, _, hx⟩ := h.at_ i hi
  have e : C.getD i Cp.none = C[i] := by simp [hi]
  rw [← e]; exact hx.sized
theorem bestC_mem (f : Cp → Cp → Int) (C : List Cp) : ∀ k, 0 < k → k ≤ C.length → bestC f C k ∈ C
  | 0, h, _ => absurd h (Nat.lt_irrefl 0)
  | k + 1, _, hk => by
    have hm : C.getD k Cp.none ∈ C := by
      have e : C.getD k Cp.none = C[k]'(by omega) := by simp [show k < C.length by omega]
      rw [e]; exact List.getElem_mem _
    rw [bestC]
    split
    · exact hm
    · rename_i h
      by_cases k0 : k = 0
      · simp [k0] at h
      · exact bestC_mem f C k (by omega) (by omega)
theorem cpsOne (w : World) (x : Cp) (hx : x.sized) : CpsV (w.alloc (.cells #[.string x.svc, .int .i64 x.num, .int .i64 x.ver, .int .i64 x.image, .int .i64 x.state, .bool x.ending, .string x.berth] 84)) (some ⟨w.heap.size, 0, none⟩) [x] := by
  have hb := LBox.new w #[.string x.svc, .int .i64 x.num, .int .i64 x.ver, .int .i64 x.image, .int .i64 x.state, .bool x.ending, .string x.berth] 84 w.heap.size rfl
  refine ⟨by simp [maxLen], fun i hi => ⟨w.heap.size, 0, rfl, hb.lt, ?_⟩⟩
  have : i = 0 := by simpa using hi
  subst this
  exact ⟨hb.get 0 _ rfl, hb.get 1 _ rfl, hb.get 2 _ rfl, hb.get 3 _ rfl, hb.get 4 _ rfl, hb.get 5 _ rfl, hb.get 6 _ rfl, hx⟩
/-- The first to end, if it may. -/
def efE (K : SBk) (s : Sv) (C : List Cp) : List En := if (decide (0 < C.length) && mayGo K s (bestC (cmpE K s) C C.length)) = true then [endOf (bestC (cmpE K s) C C.length)] else []

set_option maxRecDepth 8000 in
set_option maxHeartbeats 16000000 in
theorem endFirstI (K : SBk) (a0 a1 a2 : Option Addr) (c0 c1 c2 : Nat) (s : Sv) (n : Cn) (al : Option Addr) (cl : Nat) (L : List Cp) (lv : Int) (C : List Cp) (ac : Option Addr) (cc : Nat) (w : World) (h : SBkV w a0 a1 a2 K) (hasc : ascCp K.cps = true) (hlen : K.cps.length ≤ 200) (hs : 0 ≤ s.want ∧ s.want ≤ 10 ∧ 0 ≤ s.down ∧ s.down ≤ 10) (hC : CpsV w ac C) (hl : C.length ≤ 1048576) :
    Calls Tryz.prog 66 #[.agg #[.int .i64 K.now, .slice a0 K.svcs.length c0, .slice a1 K.cps.length c1, .slice a2 K.bts.length c2, .string s.nm, .int .i64 s.ver, .bool s.gone, .int .i64 s.image, .int .i64 s.want, .int .i64 s.down, .int .i64 s.over, .int .i64 s.next, .int .i64 s.per, .int .i64 s.least, .int .i64 s.most, .int .i64 s.load, .int .i64 s.cool, .int .i64 n.live, .int .i64 n.ready, .int .i64 n.old, .int .i64 n.failed, .int .i64 n.ending, .slice al L.length cl, .int .i64 lv], .slice ac C.length cc] w fun e w' => (∃ va vc, e = .returned (.tuple #[.agg #[.string ByteArray.empty, .int .i64 0, .int .i64 0, .int .i64 0, .int .i64 0, .bool false, (.slice va (efE K s C).length vc), .bool false], .bool (decide (0 < (efE K s C).length))]) ∧ w'.ownsRow w.heap.size 114 2 (.slice va (efE K s C).length vc) (efE K s C).length ((efE K s C).flatMap EnC)) ∧ Below w.heap.size w w' := by
  have HH := hid h
  have HAS := hid hasc
  have HLN := hid hlen
  have HS := hid hs
  clear h hasc hlen hs
  have HC := hid hC
  clear hC
  obtain ⟨E, hE⟩ : ∃ E, E = efE K s C := ⟨_, rfl⟩
  rw [← hE]
  obtain ⟨wa, hwa⟩ : ∃ wa, wa = (w.alloc (.cells #[.int .i64 K.now, .slice a0 K.svcs.length c0, .slice a1 K.cps.length c1, .slice a2 K.bts.length c2, .string s.nm, .int .i64 s.ver, .bool s.gone, .int .i64 s.image, .int .i64 s.want, .int .i64 s.down, .int .i64 s.over, .int .i64 s.next, .int .i64 s.per, .int .i64 s.least, .int .i64 s.most, .int .i64 s.load, .int .i64 s.cool, .int .i64 n.live, .int .i64 n.ready, .int .i64 n.old, .int .i64 n.failed, .int .i64 n.ending, .slice al L.length cl, .int .i64 lv] 58)).alloc (.cells #[.string { data := #[] }, .int .i64 0, .int .i64 0, .int .i64 0, .int .i64 0, .bool false, .slice none 0 0, .bool false] 47) := ⟨_, rfl⟩
  have HB : Hid (Below w.heap.size w wa) := by show Below _ _ _; rw [hwa]; exact blw_alloc (blw_alloc (Below.refl _ _) _) _
  have HX : Hid (LBox wa w.heap.size [.int .i64 K.now, .slice a0 K.svcs.length c0, .slice a1 K.cps.length c1, .slice a2 K.bts.length c2, .string s.nm, .int .i64 s.ver, .bool s.gone, .int .i64 s.image, .int .i64 s.want, .int .i64 s.down, .int .i64 s.over, .int .i64 s.next, .int .i64 s.per, .int .i64 s.least, .int .i64 s.most, .int .i64 s.load, .int .i64 s.cool, .int .i64 n.live, .int .i64 n.ready, .int .i64 n.old, .int .i64 n.failed, .int .i64 n.ending, .slice al L.length cl, .int .i64 lv]) := by show LBox _ _ _; rw [hwa]; exact (LBox.new w _ _ _ rfl).past _
  have HR : Hid (OwnBlk wa (w.heap.size + 1) 47 8) := by show OwnBlk _ _ _ _; rw [hwa]; exact OwnBlk.alloc_at2 _ _ _ _ _ rfl (by simp)
  have hz1 : w.heap.size + 1 < wa.heap.size := HR.out.lt
  go_enter Tryz.func66, Tryz.ntmps66
  go_upto_region 1 with fail
  rw [← hwa]
  clear hwa
  have yz := HX.out.lt
  have hrg := HX.out.at_
  go_wp2_with (refine wpList_load_mid rfl 58 _ rfl w.heap.size 0 rfl [.int .i64 K.now, .slice a0 K.svcs.length c0, .slice a1 K.cps.length c1, .slice a2 K.bts.length c2, .string s.nm, .int .i64 s.ver, .bool s.gone, .int .i64 s.image, .int .i64 s.want, .int .i64 s.down, .int .i64 s.over, .int .i64 s.next, .int .i64 s.per, .int .i64 s.least, .int .i64 s.most, .int .i64 s.load, .int .i64 s.cool, .int .i64 n.live, .int .i64 n.ready, .int .i64 n.old, .int .i64 n.failed, .int .i64 n.ending, .slice al L.length cl, .int .i64 lv] _ hrg Tryz.underlying58 rfl (by kernel_rfl) ?_)
  refine (stewFirstI (.agg #[.int .i64 K.now, .slice a0 K.svcs.length c0, .slice a1 K.cps.length c1, .slice a2 K.bts.length c2, .string s.nm, .int .i64 s.ver, .bool s.gone, .int .i64 s.image, .int .i64 s.want, .int .i64 s.down, .int .i64 s.over, .int .i64 s.next, .int .i64 s.per, .int .i64 s.least, .int .i64 s.most, .int .i64 s.load, .int .i64 s.cool, .int .i64 n.live, .int .i64 n.ready, .int .i64 n.old, .int .i64 n.failed, .int .i64 n.ending, .slice al L.length cl, .int .i64 lv]) (cmpE K s) C ac cc wa (HC.out.later HB.out) hl (fun x y W hW => compareI K a0 a1 a2 c0 c1 c2 s n al cl L lv x y W (HH.out.later (blw_trans HB.out hW)))).mono ?_
  rintro e w1 ⟨⟨b, hbb, rfl⟩, hb⟩
  have HE : Hid (E = if (decide (0 < C.length) && mayGo K s b) = true then [endOf b] else []) := by show E = _; rw [hE, efE, ← hbb]
  have HSZ : Hid (0 < C.length → b.sized) := fun h0 => HC.out.mem b (by rw [hbb]; exact bestC_mem _ _ _ h0 (Nat.le_refl _))
  obtain ⟨t, ht⟩ : ∃ t, t = decide (0 < C.length) := ⟨_, rfl⟩
  rw [← ht] at HE ⊢
  obtain ⟨w2, hw2⟩ : ∃ w2, w2 = w1.alloc (.cells #[.string b.svc, .int .i64 b.num, .int .i64 b.ver, .int .i64 b.image, .int .i64 b.state, .bool b.ending, .string b.berth] 84) := ⟨_, rfl⟩
  obtain ⟨q2, hq2⟩ : ∃ q2, q2 = w1.heap.size := ⟨_, rfl⟩
  have hb2 : Below wa.heap.size wa w2 := by rw [hw2]; exact blw_trans hb (blw_alloc (Below.refl _ _) _)
  have HK2 : Hid (LBox w2 q2 [.string b.svc, .int .i64 b.num, .int .i64 b.ver, .int .i64 b.image, .int .i64 b.state, .bool b.ending, .string b.berth]) := by show LBox _ _ _; rw [hw2]; exact LBox.new _ _ _ _ hq2
  have HB2 := hid (blw_trans HB.out hb2)
  have HX2 := hid (HX.out.later hb2)
  have HR2 := hid (HR.out.later hb2)
  have HT := hid ht
  clear hbb hE ht hb2 hb
  go_upto_region 2 with fail
  rw [← hw2, ← hq2]
  clear hw2 hq2 yz hrg HX HR HB
  cases t
  · have HN : Hid (E = []) := by show E = _; rw [HE.out]; rfl
    clear HE
    have hth := RY.own_there HR2.out
    have hrt : World.rangeAt (w2.setCells (w.heap.size + 1) 0 [.string ByteArray.empty, .int .i64 0, .int .i64 0, .int .i64 0, .int .i64 0, .bool false, .slice none 0 0, .bool false]) (w.heap.size + 1) 0 [.string ByteArray.empty, .int .i64 0, .int .i64 0, .int .i64 0, .int .i64 0, .bool false, .slice none 0 0, .bool false] := World.rangeAt_setCells_same _ _ _ _ hth
    go_wp2_with (refine wpList_store_mid rfl 47 _ _ rfl (w.heap.size + 1) 0 #[.string ByteArray.empty, .int .i64 0, .int .i64 0, .int .i64 0, .int .i64 0, .bool false, .slice none 0 0, .bool false] rfl rfl hth (by kernel_rfl) (by simp [Value.oneCell']) ?_)
    refine bodyPost_ret (v := .tuple #[.agg #[.string ByteArray.empty, .int .i64 0, .int .i64 0, .int .i64 0, .int .i64 0, .bool false, .slice none 0 0, .bool false], .bool false]) (by simp [results, Tryz.results66, asAddr, run_loadVar_mid (P := Tryz.prog) _ _ _ 47 [.string ByteArray.empty, .int .i64 0, .int .i64 0, .int .i64 0, .int .i64 0, .bool false, .slice none 0 0, .bool false] _ hrt Tryz.underlying47 rfl (by kernel_rfl)]) rfl ?_
    rw [HN.out]
    exact ⟨⟨none, 0, rfl, owns_nil _ _ _ _⟩, setCells_below HB2.out (by omega) _ _⟩
  have cz := HK2.out.lt
  have d0 := HK2.out.get 0 _ rfl
  have d1 := HK2.out.get 1 _ rfl
  have d2 := HK2.out.get 2 _ rfl
  have d3 := HK2.out.get 3 _ rfl
  have d4 := HK2.out.get 4 _ rfl
  have d5 := HK2.out.get 5 _ rfl
  have d6 := HK2.out.get 6 _ rfl
  have yz := HX2.out.lt
  have hrg := HX2.out.at_
  go_wp2_with (refine load_mid_g (by kernel_rfl) 58 _ rfl w.heap.size 0 rfl [.int .i64 K.now, .slice a0 K.svcs.length c0, .slice a1 K.cps.length c1, .slice a2 K.bts.length c2, .string s.nm, .int .i64 s.ver, .bool s.gone, .int .i64 s.image, .int .i64 s.want, .int .i64 s.down, .int .i64 s.over, .int .i64 s.next, .int .i64 s.per, .int .i64 s.least, .int .i64 s.most, .int .i64 s.load, .int .i64 s.cool, .int .i64 n.live, .int .i64 n.ready, .int .i64 n.old, .int .i64 n.failed, .int .i64 n.ending, .slice al L.length cl, .int .i64 lv] _ hrg Tryz.underlying58 rfl (by kernel_rfl) ?_)
  refine (mayEndI K a0 a1 a2 c0 c1 c2 s n al cl L lv b w2 (HH.out.later HB2.out) HAS.out HLN.out HS.out).mono ?_
  rintro e w3 ⟨rfl, hb3⟩
  obtain ⟨g, hg⟩ : ∃ g, g = mayGo K s b := ⟨_, rfl⟩
  rw [← hg] at HE ⊢
  have HB3 := hid (blw_trans HB2.out hb3)
  have HK3 := hid (HK2.out.later hb3)
  have HR3 := hid (HR2.out.later hb3)
  clear hb3 hg HB2 HK2 HR2 HX2 cz d0 d1 d2 d3 d4 d5 d6 yz hrg
  cases g
  · have HN : Hid (E = []) := by show E = _; rw [HE.out]; rfl
    clear HE
    have hth := RY.own_there HR3.out
    have hrt : World.rangeAt (w3.setCells (w.heap.size + 1) 0 [.string ByteArray.empty, .int .i64 0, .int .i64 0, .int .i64 0, .int .i64 0, .bool false, .slice none 0 0, .bool false]) (w.heap.size + 1) 0 [.string ByteArray.empty, .int .i64 0, .int .i64 0, .int .i64 0, .int .i64 0, .bool false, .slice none 0 0, .bool false] := World.rangeAt_setCells_same _ _ _ _ hth
    go_wp2_with (refine wpList_store_mid rfl 47 _ _ rfl (w.heap.size + 1) 0 #[.string ByteArray.empty, .int .i64 0, .int .i64 0, .int .i64 0, .int .i64 0, .bool false, .slice none 0 0, .bool false] rfl rfl hth (by kernel_rfl) (by simp [Value.oneCell']) ?_)
    refine bodyPost_ret (v := .tuple #[.agg #[.string ByteArray.empty, .int .i64 0, .int .i64 0, .int .i64 0, .int .i64 0, .bool false, .slice none 0 0, .bool false], .bool false]) (by simp [results, Tryz.results66, asAddr, run_loadVar_mid (P := Tryz.prog) _ _ _ 47 [.string ByteArray.empty, .int .i64 0, .int .i64 0, .int .i64 0, .int .i64 0, .bool false, .slice none 0 0, .bool false] _ hrt Tryz.underlying47 rfl (by kernel_rfl)]) rfl ?_
    rw [HN.out]
    exact ⟨⟨none, 0, rfl, owns_nil _ _ _ _⟩, setCells_below HB3.out (by omega) _ _⟩
  have HN : Hid (E = [endOf b]) := by show E = _; rw [HE.out]; rfl
  clear HE
  have cz := HK3.out.lt
  have d0 := HK3.out.get 0 _ rfl
  have d1 := HK3.out.get 1 _ rfl
  have d2 := HK3.out.get 2 _ rfl
  have d3 := HK3.out.get 3 _ rfl
  have d4 := HK3.out.get 4 _ rfl
  have d5 := HK3.out.get 5 _ rfl
  have d6 := HK3.out.get 6 _ rfl
  go_wp2_with fail
  refine (endAllI [b] (some ⟨w3.heap.size, 0, none⟩) 1 (w3.alloc (.cells #[.string b.svc, .int .i64 b.num, .int .i64 b.ver, .int .i64 b.image, .int .i64 b.state, .bool b.ending, .string b.berth] 84)) (cpsOne w3 b (HSZ.out (by have := HT.out; simpa using this.symm))) (by simp)).mono ?_
  rintro e w5 ⟨⟨va, vc, rfl, ho⟩, hb5⟩
  have hb4 : Below w3.heap.size w3 w5 := blw_trans (blw_alloc (Below.refl _ _) _) hb5
  have HB5 := hid (blw_trans HB3.out hb4)
  have HR5 := hid (HR3.out.later hb4)
  have HO5 : Hid (w5.ownsRow (w.heap.size + 2) 114 2 (.slice va 1 vc) 1 ([endOf b].flatMap EnC)) := owns_base ho (by have := HR3.out.lt; simp; omega)
  clear ho hb5 hb4 HB3 HK3 HR3 cz d0 d1 d2 d3 d4 d5 d6
  have hth := RY.own_there HR5.out
  have hrt : World.rangeAt (w5.setCells (w.heap.size + 1) 0 [.string ByteArray.empty, .int .i64 0, .int .i64 0, .int .i64 0, .int .i64 0, .bool false, (.slice va 1 vc), .bool false]) (w.heap.size + 1) 0 [.string ByteArray.empty, .int .i64 0, .int .i64 0, .int .i64 0, .int .i64 0, .bool false, (.slice va 1 vc), .bool false] := World.rangeAt_setCells_same _ _ _ _ hth
  go_wp2_with (refine wpList_store_mid rfl 47 _ _ rfl (w.heap.size + 1) 0 #[.string ByteArray.empty, .int .i64 0, .int .i64 0, .int .i64 0, .int .i64 0, .bool false, (.slice va 1 vc), .bool false] rfl rfl hth (by kernel_rfl) (by simp [Value.oneCell']) ?_)
  refine bodyPost_ret (v := .tuple #[.agg #[.string ByteArray.empty, .int .i64 0, .int .i64 0, .int .i64 0, .int .i64 0, .bool false, (.slice va 1 vc), .bool false], .bool true]) (by simp [results, Tryz.results66, asAddr, run_loadVar_mid (P := Tryz.prog) _ _ _ 47 [.string ByteArray.empty, .int .i64 0, .int .i64 0, .int .i64 0, .int .i64 0, .bool false, (.slice va 1 vc), .bool false] _ hrt Tryz.underlying47 rfl (by kernel_rfl)]) rfl ?_
  rw [HN.out]
  exact ⟨⟨va, vc, rfl, owns_base (owns_scs (by omega) _ _ _ HO5.out) (by omega)⟩, setCells_below HB5.out (by omega) _ _⟩

end Go.Proofs.YtamhfnlogldpaaaGreat
