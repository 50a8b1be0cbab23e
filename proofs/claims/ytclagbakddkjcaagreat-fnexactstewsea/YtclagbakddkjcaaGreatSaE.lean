/-
  The sea: the berth with the fewest copies, by the program and by the specification.
-/
import Derived.StringKeys
import Derived.Test.YtclagbakddkjcaaGreatChH
import Derived.Test.YtclagbakddkjcaaGreatAp
namespace Go.Proofs.YtclagbakddkjcaaGreat
open Go.RowKit Go.Deep

theorem und9' : Tryz.prog.underlying 9 = some .string := by kernel_rfl
theorem undM : Tryz.prog.underlying 149 = some (.map 9 3) := by kernel_rfl
theorem str_law : WideMaps.KeyLaw Tryz.prog 9 := WideMaps.string_law und9'
theorem str_key (a : ByteArray) (h : a.size ≤ maxLen) : ∃ l, keyOf Tryz.prog 9 (.string a) = some l := ⟨_, WideMaps.keyOf_string_mk und9' h⟩
def updF (f : ByteArray → Int) (k : ByteArray) (v : Int) : ByteArray → Int := fun x => if same x k then v else f x
/-- What the entries say. -/
structure Good (es : Array MapEntry) (f : ByteArray → Int) : Prop where
  ent : ∀ (i : Nat) (e : MapEntry), es[i]? = some e → ∃ k : ByteArray, e.key = .string k ∧ k.size ≤ maxLen ∧ e.val = .int .i64 (f k)
  off : ∀ k : ByteArray, (∀ (i : Nat) (e : MapEntry), es[i]? = some e → e.key ≠ .string k) → f k = 0
  one : ∀ (i j : Nat) (e e' : MapEntry), es[i]? = some e → es[j]? = some e' → e.key = e'.key → i = j
def MpAt (W : World) (mb : Nat) (f : ByteArray → Int) : Prop := ∃ es c, W.heap[mb]? = some (.map es c) ∧ Good es f
theorem MpAt.lt {W : World} {mb : Nat} {f : ByteArray → Int} (h : MpAt W mb f) : mb < W.heap.size := by obtain ⟨es, c, e, _⟩ := h; exact lt_heap e
theorem MpAt.of {W W' : World} {mb : Nat} {f : ByteArray → Int} (h : MpAt W mb f) (hb : W'.heap[mb]? = W.heap[mb]?) : MpAt W' mb f := by obtain ⟨es, c, e, g⟩ := h; exact ⟨es, c, hb.trans e, g⟩
theorem MpAt.later {W W' : World} {mb : Nat} {f : ByteArray → Int} (h : MpAt W mb f) (hb : Below W.heap.size W W') : MpAt W' mb f := h.of (hb.block mb h.lt)
theorem MpAt.ext {W : World} {mb : Nat} {f g : ByteArray → Int} (h : MpAt W mb f) (e : ∀ k, f k = g k) : MpAt W mb g := by rw [show g = f from funext fun k => (e k).symm]; exact h
theorem good_none : Good #[] (fun _ => 0) := ⟨fun i e h => by simp at h, fun _ _ => rfl, fun i j e e' h => by simp at h⟩
theorem good_find {es : Array MapEntry} {f : ByteArray → Int} (G : Good es f) (W : World) (k : ByteArray) (hk : k.size ≤ maxLen) :
    ((Instr.findKey 9 (.string k) es.toList).run Tryz.prog W = .ok none W ∧ ∀ (i : Nat) (e : MapEntry), es[i]? = some e → e.key ≠ .string k) ∨ ∃ (j : Nat) (e : MapEntry), (Instr.findKey 9 (.string k) es.toList).run Tryz.prog W = .ok (some (j, .int .i64 (f k))) W ∧ es[j]? = some e ∧ e.key = .string k := by
  obtain ⟨l, hl⟩ := str_key k hk
  have hes : ∀ e ∈ es.toList, ∃ l, keyOf Tryz.prog 9 e.key = some l := by
    intro e he
    obtain ⟨i, hi, ei⟩ := List.getElem_of_mem he
    obtain ⟨k', h1, h2, _⟩ := G.ent i e (by rw [Array.getElem?_eq_some_iff]; exact ⟨by simpa using hi, by simpa using ei⟩)
    rw [h1]; exact str_key k' h2
  rcases str_law.find W hl _ hes with ⟨h1, h2⟩ | ⟨j, e, h1, h2, h3⟩
  · exact Or.inl ⟨h1, fun i e he => h2 e (List.mem_of_getElem? (i := i) (by simpa using he))⟩
  · have he : es[j]? = some e := by simpa using h2
    obtain ⟨k', e1, _, e3⟩ := G.ent j e he
    rw [h3] at e1
    injection e1 with e1
    subst e1
    rw [e3] at h1
    exact Or.inr ⟨j, e, h1, he, h3⟩
theorem mp_look {W : World} {mb : Nat} {f : ByteArray → Int} (h : MpAt W mb f) (k : ByteArray) (hk : k.size ≤ maxLen) : (Instr.lookup 149 (.map (some mb)) (.string k) false).run Tryz.prog W = .ok (.int .i64 (f k)) W := by
  obtain ⟨es, c, hb, G⟩ := h
  obtain ⟨l, hl⟩ := str_key k hk
  have hc := str_law.check W es.isEmpty hl
  have hz : (zeroValue 3).run Tryz.prog W = .ok (.int .i64 0) W := by kernel_rfl
  rcases good_find G W k hk with ⟨h1, h2⟩ | ⟨j, e, h1, h2, h3⟩
  · rw [G.off k h2]
    simp [Instr.lookup, run_underlying undM, MapKept.run_getObj_map hb, hc, h1, hz, Result.andThen]
  · simp [Instr.lookup, run_underlying undM, MapKept.run_getObj_map hb, hc, h1, Result.andThen]
theorem putM_x (W : World) (mb : Nat) (o : Obj) : BelX mb W (putM W mb o) := ⟨rfl, rfl, rfl, by rw [putM_size]; exact Nat.le_refl _, fun q _ hn => putM_other o hn⟩
theorem mp_put {W : World} {mb : Nat} {f : ByteArray → Int} (h : MpAt W mb f) (k : ByteArray) (hk : k.size ≤ maxLen) (v : Int) : ∃ W', (Instr.mapUpdate 149 (.map (some mb)) (.string k) (.int .i64 v)).run Tryz.prog W = .ok () W' ∧ MpAt W' mb (updF f k v) ∧ BelX mb W W' := by
  have hlt := h.lt
  obtain ⟨es, c, hb, G⟩ := h
  obtain ⟨l, hl⟩ := str_key k hk
  have hc := str_law.check W false hl
  have hst := str_law.stays W hl
  have hself : updF f k v k = v := by unfold updF; rw [(same_iff k k).2 rfl, if_pos rfl]
  have hoth : ∀ x, x ≠ k → updF f k v x = f x := fun x hx => by
    unfold updF
    rw [if_neg]
    intro q
    exact hx ((same_iff x k).1 q)
  rcases good_find G W k hk with ⟨h1, h2⟩ | ⟨j, e, h1, h2, h3⟩
  · refine ⟨putM W mb (.map (es.push ⟨.string k, .int .i64 v, c⟩) (c + 1)), ?_, ⟨_, _, putM_at _ hlt, ?_⟩, putM_x _ _ _⟩
    · simp [Instr.mapUpdate, run_underlying undM, MapKept.run_getObj_map hb, hc, h1, Result.andThen, MapKept.run_setObj_map _ hb, putM]
    · refine ⟨fun i e he => ?_, fun x hx => ?_, fun i i' e e' he he' hee => ?_⟩
      · rw [Array.getElem?_push] at he
        split at he
        · cases he; exact ⟨k, rfl, hk, by rw [hself]⟩
        · obtain ⟨k', q1, q2, q3⟩ := G.ent i e he
          refine ⟨k', q1, q2, ?_⟩
          rw [hoth k' (fun e' => h2 i e he (q1.trans (congrArg Value.string e'))), q3]
      · have hxk : x ≠ k := fun e => hx es.size ⟨.string k, .int .i64 v, c⟩ (by rw [Array.getElem?_push, if_pos rfl]) (congrArg Value.string e.symm)
        rw [hoth x hxk]
        refine G.off x (fun i e he => hx i e ?_)
        rw [Array.getElem?_push, if_neg (fun q => by rw [q, Array.getElem?_eq_none (Nat.le_refl _)] at he; cases he)]
        exact he
      · rw [Array.getElem?_push] at he he'
        split at he <;> split at he'
        · omega
        · cases he; exact absurd hee.symm (h2 i' e' he')
        · cases he'; exact absurd hee (h2 i e he)
        · exact G.one i i' e e' he he' hee
  · obtain ⟨k', e1, _, _⟩ := G.ent j e h2
    refine ⟨putM W mb (.map (es.modify j fun e => { e with key := .string k, val := .int .i64 v }) c), ?_, ⟨_, _, putM_at _ hlt, ?_⟩, putM_x _ _ _⟩
    · simp [Instr.mapUpdate, run_underlying undM, MapKept.run_getObj_map hb, hc, h1, h2, h3, hst, Result.andThen, MapKept.run_setObj_map _ hb, putM]
    · have key : ∀ (i : Nat) (e' : MapEntry), (es.modify j fun e => { e with key := .string k, val := .int .i64 v })[i]? = some e' → ∃ e0, es[i]? = some e0 ∧ e'.key = e0.key ∧ (i = j ∧ e'.val = .int .i64 v ∨ i ≠ j ∧ e'.val = e0.val) := by
        intro i e' he'
        rw [Array.getElem?_modify] at he'
        by_cases hij : j = i
        · subst hij
          rw [if_pos rfl, h2] at he'
          simp only [Option.map_some, Option.some.injEq] at he'
          subst he'
          exact ⟨e, h2, h3.symm, Or.inl ⟨rfl, rfl⟩⟩
        · rw [if_neg hij] at he'
          exact ⟨e', he', rfl, Or.inr ⟨fun q => hij q.symm, rfl⟩⟩
      refine ⟨fun i e' he' => ?_, fun x hx => ?_, fun i i' e1' e2' he he' hee => ?_⟩
      · obtain ⟨e0, q1, q2, q3⟩ := key i e' he'
        obtain ⟨k0, r1, r2, r3⟩ := G.ent i e0 q1
        rcases q3 with ⟨rfl, hv⟩ | ⟨hn, hv⟩
        · have q4 : e0 = e := Option.some.inj (q1.symm.trans h2)
          have : k0 = k := Value.string.inj (r1.symm.trans ((congrArg MapEntry.key q4).trans h3))
          subst this
          exact ⟨k0, q2.trans r1, r2, by rw [hv, hself]⟩
        · have hk0 : k0 ≠ k := fun q => hn (G.one i j e0 e q1 h2 (r1.trans ((congrArg Value.string q).trans h3.symm)))
          exact ⟨k0, q2.trans r1, r2, by rw [hv, r3, hoth k0 hk0]⟩
      · have hxk : x ≠ k := fun q => by
          have := hx j { e with key := .string k, val := .int .i64 v } (by rw [Array.getElem?_modify, if_pos rfl, h2]; rfl)
          exact this (show Value.string k = Value.string x from congrArg Value.string q.symm)
        rw [hoth x hxk]
        refine G.off x (fun i e0 he0 hk0 => ?_)
        by_cases hij : j = i
        · subst hij
          rw [h2] at he0; cases he0
          rw [h3] at hk0; injection hk0 with hk0
          exact hxk hk0.symm
        · exact hx i e0 (by rw [Array.getElem?_modify, if_neg hij]; exact he0) hk0
      · obtain ⟨a1, b1, c1, _⟩ := key i e1' he
        obtain ⟨a2, b2, c2, _⟩ := key i' e2' he'
        exact G.one i i' a1 a2 b1 b2 (by rw [← c1, ← c2]; exact hee)

end Go.Proofs.YtclagbakddkjcaaGreat

namespace Go.Proofs.YtclagbakddkjcaaGreat
open Go.RowKit Go.Deep

theorem setCells_below {u W : World} {q : Nat} (h : Below u.heap.size u W) (hq : u.heap.size ≤ q) : ∀ (o : Nat) (vs : List Value), Below u.heap.size u (W.setCells q o vs) := by
  intro o vs
  induction vs generalizing o W with
  | nil => exact h
  | cons x vs ih => rw [World.setCells]; exact ih (h.setCell (p := ⟨q, o, none⟩) hq x) (o + 1)
/-- The best of the first k copies. -/
def bestB (f : Bt → Bt → Int) (C : List Bt) : Nat → Bt
  | 0 => Bt.none
  | k + 1 => if (decide (k = 0) || decide (f (C.getD k Bt.none) (bestB f C k) < 0)) = true then C.getD k Bt.none else bestB f C k
theorem bestB_sized (f : Bt → Bt → Int) {C : List Bt} (h : ∀ i, i < C.length → (C.getD i Bt.none).sized) : ∀ k, k ≤ C.length → (bestB f C k).nm.size ≤ maxLen
  | 0, _ => by simp [bestB, Bt.none]
  | k + 1, hk => by
    rw [bestB]
    split
    · exact h k (by omega)
    · exact bestB_sized f h k (by omega)
/-- What is kept while the first to end is looked for. -/
structure FJ (w wa wr : World) (b : Bt) : Prop where
  bx : BelX (w.heap.size + 1) wa wr
  fo : OwnBlk wr (w.heap.size + 1) 79 2
  ro : OwnBlk wr w.heap.size 79 2
  at_ : LBox wr (w.heap.size + 1) [.string b.nm, .bool b.drain]
theorem FJ.later {w wa wr W : World} {b : Bt} (h : FJ w wa wr b) (hb : Below wr.heap.size wr W) : FJ w wa W b := ⟨h.bx.on hb, h.fo.later hb, h.ro.later hb, h.at_.later hb⟩
theorem FJ.put {w wa wr : World} {b : Bt} (h : FJ w wa wr b) (x : Bt) : FJ w wa (wr.setCells (w.heap.size + 1) 0 [.string x.nm, .bool x.drain]) x := by
  have hs : (wr.setCells (w.heap.size + 1) 0 [.string x.nm, .bool x.drain]).heap.size = wr.heap.size := by simp [World.setCells, World.setCell]
  refine ⟨h.bx.scs _ _, RY.own_setCells _ 0 wr h.fo, ?_, ⟨by rw [hs]; exact h.at_.lt, World.rangeAt_setCells_same _ _ _ _ (RY.own_there h.fo)⟩⟩
  simp only [World.setCells]
  exact (h.ro.sc_other (by omega) _ _).sc_other (by omega) _ _

set_option maxRecDepth 8000 in
set_option maxHeartbeats 8000000 in
theorem firstBI (G : Value) (f : Bt → Bt → Int) (C : List Bt) (al : Option Addr) (cl : Nat) (w : World) (hC : BtsV w al C) (hl : C.length ≤ 1048576)
    (hF : ∀ x y W, x.nm.size ≤ maxLen → y.nm.size ≤ maxLen → Below w.heap.size w W → Calls Tryz.prog 102 #[.agg #[.string x.nm, .bool x.drain], .agg #[.string y.nm, .bool y.drain], G] W fun e w' => e = .returned (.int .i64 (f x y)) ∧ Below W.heap.size W w') :
    Calls Tryz.prog 103 #[.slice al C.length cl, .func (.func 102) #[] #[G]] w fun e w' => (∃ b, b = bestB f C C.length ∧ e = .returned (.tuple #[.agg #[.string b.nm, .bool b.drain], .bool (decide (0 < C.length))])) ∧ Below w.heap.size w w' := by
  have HL := hid hC
  have HCZ : Hid (∀ i, i < C.length → (C.getD i Bt.none).sized) := fun i hi => by obtain ⟨_, _, _, _, hf⟩ := hC.at_ i hi; exact hf.sized
  have HF := hid hF
  clear hC hF
  obtain ⟨wa, hwa⟩ : ∃ wa, wa = (w.alloc (.cells #[.string { data := #[] }, .bool false] 79)).alloc (.cells #[.string { data := #[] }, .bool false] 79) := ⟨_, rfl⟩
  have HB : Hid (Below w.heap.size w wa) := by show Below _ _ _; rw [hwa]; exact blw_alloc (blw_alloc (Below.refl _ _) _) _
  have HI0 : Hid (FJ w wa wa Bt.none) := by
    show FJ _ _ _ _
    rw [hwa]
    exact ⟨BelX.refl _ _, OwnBlk.alloc_at2 _ _ _ _ _ rfl (by simp), (OwnBlk.alloc_at2 _ _ _ _ _ rfl rfl).later (blw_alloc (Below.refl _ _) _), LBox.new _ _ _ _ (by simp)⟩
  go_enter Tryz.func103, Tryz.ntmps103
  go_upto_region 2 with fail
  rw [← hwa]
  clear hwa
  go_wp2
  go_loopw [11] (fun i wr => ∃ (k : Nat), k ≤ C.length ∧ i = .int .i64 k ∧ FJ w wa wr (bestB f C k)) (fun i _ => C.length - (intOf i).toNat)
  case atStart => exact ⟨0, Nat.zero_le _, rfl, HI0.out⟩
  case round =>
    obtain ⟨k, hk, rfl, hI⟩ := hrel
    have HI := hid hI
    clear hI
    obtain ⟨b, hb⟩ : ∃ b, b = bestB f C k := ⟨_, rfl⟩
    rw [← hb] at HI
    have HBr : Hid (Below w.heap.size w wr) := HI.out.bx.below HB.out (by omega)
    by_cases hlt : k < C.length
    · obtain ⟨b1, off1, ha1, hbl1, hf1⟩ := (HL.out.later HBr.out).at_ k hlt
      subst ha1
      obtain ⟨x, hx⟩ : ∃ x, x = C.getD k Bt.none := ⟨_, rfl⟩
      rw [← hx] at hf1
      have HS : Hid (bestB f C (k + 1) = if (decide (k = 0) || decide (f x b < 0)) = true then x else b) := by show _ = _; rw [bestB, ← hx, ← hb]
      have HXZ : Hid (x.nm.size ≤ maxLen) := hf1.sized
      have HBZ : Hid (b.nm.size ≤ maxLen) := by rw [hb]; exact bestB_sized f HCZ.out k hk
      obtain ⟨e0, e1, _⟩ := hf1
      clear hx hb
      have hm0 : (0 : Int) ≤ (k : Int) := by omega
      have hm3 : (k : Int) < (C.length : Int) := by omega
      obtain ⟨w1, hw1⟩ : ∃ w1, w1 = wr.alloc (.cells #[.string x.nm, .bool x.drain] 79) := ⟨_, rfl⟩
      have hb1 : Below wr.heap.size wr w1 := by rw [hw1]; exact blw_alloc (Below.refl _ _) _
      obtain ⟨q1, hq1⟩ : ∃ q1, q1 = wr.heap.size := ⟨_, rfl⟩
      have HC1 : Hid (LBox w1 q1 [.string x.nm, .bool x.drain]) := by show LBox _ _ _; rw [hw1]; exact LBox.new _ _ _ _ hq1
      have HI1 := hid (HI.out.later hb1)
      have HB1 := hid (blw_trans HBr.out hb1)
      go_upto_region 5 with fail
      rw [← hw1, ← hq1]
      clear hw1 hq1 hb1 HI HBr e0 e1 hbl1
      have cz := HC1.out.lt
      have d0 := HC1.out.get 0 _ rfl
      have d1 := HC1.out.get 1 _ rfl
      by_cases k0 : k = 0
      · subst k0
        have HN : Hid (bestB f C 1 = x) := by show _ = _; rw [HS.out]; simp
        clear HS
        have hth := RY.own_there HI1.out.fo
        have HP := hid (HI1.out.put x)
        go_upto_region 6 with fail
        refine wp_region_lit ?_
        refine wpList_load_mid rfl 79 _ rfl q1 0 rfl [.string x.nm, .bool x.drain] _ HC1.out.at_ Tryz.underlying79 rfl (by kernel_rfl) ?_
        refine wpList_store_mid rfl 79 _ _ rfl (w.heap.size + 1) 0 #[.string x.nm, .bool x.drain] rfl rfl hth (by kernel_rfl) (by simp [Value.oneCell']) ?_
        simp only [Act.put, List.setIfInBounds_toArray, List.set_cons_zero, List.set_cons_succ]
        obtain ⟨w9, hw9⟩ : ∃ w9, w9 = w1.setCells (w.heap.size + 1) 0 [.string x.nm, .bool x.drain] := ⟨_, rfl⟩
        rw [← hw9] at HP ⊢
        clear hw9
        go_wp2
        exact ⟨⟨1, by omega, rfl, by rw [HN.out]; exact HP.out⟩, by simp [intOf]; omega⟩
      · have k0' : ((k : Int) == 0) = false := by simp; omega
        have fz := HI1.out.at_.lt
        have g0 := HI1.out.at_.get 0 _ rfl
        have g1 := HI1.out.at_.get 1 _ rfl
        go_wp2_with fail
        refine (HF.out x b w1 HXZ.out HBZ.out HB1.out).mono ?_
        rintro e w2 ⟨rfl, hb2⟩
        have HC2 := hid (HC1.out.later hb2)
        have HI2 := hid (HI1.out.later hb2)
        clear hb2 HC1 HI1 cz fz d0 d1 g0 g1
        obtain ⟨r, hr⟩ : ∃ r, r = f x b := ⟨_, rfl⟩
        rw [← hr] at HS ⊢
        clear hr
        by_cases hr0 : r < 0
        · have HN : Hid (bestB f C (k + 1) = x) := by show _ = _; rw [HS.out]; simp [hr0]
          clear HS
          have cz := HC2.out.lt
          have d0 := HC2.out.get 0 _ rfl
          have d1 := HC2.out.get 1 _ rfl
          have hth := RY.own_there HI2.out.fo
          have HP := hid (HI2.out.put x)
          go_upto_region 6 with fail
          refine wp_region_lit ?_
          refine wpList_load_mid rfl 79 _ rfl q1 0 rfl [.string x.nm, .bool x.drain] _ HC2.out.at_ Tryz.underlying79 rfl (by kernel_rfl) ?_
          refine wpList_store_mid rfl 79 _ _ rfl (w.heap.size + 1) 0 #[.string x.nm, .bool x.drain] rfl rfl hth (by kernel_rfl) (by simp [Value.oneCell']) ?_
          simp only [Act.put, List.setIfInBounds_toArray, List.set_cons_zero, List.set_cons_succ]
          obtain ⟨w9, hw9⟩ : ∃ w9, w9 = w2.setCells (w.heap.size + 1) 0 [.string x.nm, .bool x.drain] := ⟨_, rfl⟩
          rw [← hw9] at HP ⊢
          clear hw9
          go_wp2
          go_roundw
          case rel => exact ⟨k + 1, by omega, by go_num, by rw [HN.out]; exact HP.out⟩
          case measure => simp [intOf]; omega
        · have HN : Hid (bestB f C (k + 1) = b) := by show _ = _; rw [HS.out]; simp [hr0, k0]
          clear HS
          go_wp2
          go_roundw
          case rel => exact ⟨k + 1, by omega, by go_num, by rw [HN.out]; exact HI2.out⟩
          case measure => simp [intOf]; omega
    · obtain rfl : k = C.length := by omega
      have HE := hid hb
      clear hb
      have fz := HI.out.at_.lt
      have g0 := HI.out.at_.get 0 _ rfl
      have g1 := HI.out.at_.get 1 _ rfl
      have hth := RY.own_there HI.out.ro
      have hrt : World.rangeAt (wr.setCells w.heap.size 0 [.string b.nm, .bool b.drain]) w.heap.size 0 [.string b.nm, .bool b.drain] := World.rangeAt_setCells_same _ _ _ _ hth
      go_wp2_with (refine wpList_store_mid rfl 79 _ _ rfl w.heap.size 0 #[.string b.nm, .bool b.drain] rfl rfl hth (by kernel_rfl) (by simp [Value.oneCell']) ?_)
      refine bodyPost_ret (v := .tuple #[.agg #[.string b.nm, .bool b.drain], .bool (decide (0 < C.length))]) (by simp [results, Tryz.results103, asAddr, run_loadVar_mid (P := Tryz.prog) _ _ _ 79 [.string b.nm, .bool b.drain] _ hrt Tryz.underlying79 rfl (by kernel_rfl)]) rfl ?_
      exact ⟨⟨b, HE.out, rfl⟩, setCells_below HBr.out (Nat.le_refl _) _ _⟩

end Go.Proofs.YtclagbakddkjcaaGreat

namespace Go.Proofs.YtclagbakddkjcaaGreat
open Go.RowKit Go.Deep

set_option maxRecDepth 8000 in
set_option maxHeartbeats 8000000 in
theorem cloneI (lo : Nat) (p : Option Addr) (q : Nat) (l : List Bt) (w : World) (h : w.ownsRow lo 79 2 (.slice p l.length q) l.length (l.flatMap BtC)) (hl : l.length ≤ 1048576) :
    Calls Tryz.prog 99 #[.slice p l.length q] w fun e w' => (∃ v, e = .returned v ∧ w'.ownsRow w.heap.size 79 2 v l.length (l.flatMap BtC)) ∧ Below w.heap.size w w' := by
  cases p with
  | none =>
    have h0 : l = [] := by
      rcases h.2 with ⟨hv, h0⟩ | ⟨g, cap, cur, hv, _⟩
      · exact List.eq_nil_of_length_eq_zero h0
      · cases hv
    subst h0
    have hnil : ∀ W, (binOp BinOp.eql 35 (.slice none 0 q) (.slice none 0 0)).run Tryz.prog W = .ok (.bool true) W := fun W => by kernel_rfl
    go_enter Tryz.func99, Tryz.ntmps99
    go_wp2
    go_ret
    exact ⟨⟨_, rfl, rfl, Or.inl ⟨rfl, rfl⟩⟩, Below.refl _ _⟩
  | some ad =>
    obtain ⟨g, rfl, hcell⟩ : ∃ g, ad = ⟨g, 0, none⟩ ∧ ∀ j u, (l.flatMap BtC)[j]? = some u → w.cell? ⟨g, j, none⟩ = some u := by
      rcases h.2 with ⟨hv, _⟩ | ⟨g, cap, cur, hv, _, hg, _, _, _, ht⟩
      · cases hv
      · injection hv with e _ _
        injection e with e
        refine ⟨g, e, fun j u hj => ?_⟩
        rw [← ht, List.getElem?_take] at hj
        simp only [World.cell?, hg]
        split at hj
        · simpa using hj
        · cases hj
    have gz : g < w.heap.size := (World.ownsRow.lt h g rfl).2
    obtain ⟨W1, hW1⟩ : ∃ W1, W1 = w.alloc (.cells #[] 79) := ⟨_, rfl⟩
    have hb1 : Below w.heap.size w W1 := by rw [hW1]; exact blw_alloc (Below.refl _ _) _
    have hg1 : W1.heap[w.heap.size]? = some (.cells #[] 79 (0, 0)) := by rw [hW1]; exact World.alloc_heap_new w _
    obtain ⟨v', W', hr, ho, hb'⟩ := app_new (P := Tryz.prog) w.heap.size 35 35 79 2 24 _ Tryz.undBt Tryz.infBt rfl W1 w.heap.size hg1 (Nat.le_refl _) (some ⟨g, 0, none⟩) l.length q (l.flatMap BtC) (flat_len BtC 2 BtC_len l) (fun ad' e j u hj => by
      cases e
      rw [addN, Nat.zero_add]
      exact (hb1.cell (p := ⟨g, j, none⟩) gz).trans (hcell j u hj)) (fun e => by cases e) (BtC_one l) hl (by decide) hb1.size
    have HO := hid ho
    have HB := hid (blw_trans hb1 hb')
    rw [hW1] at hr
    clear hcell gz hW1 hb1 hg1 ho hb' h
    have hnil : ∀ n W, (binOp BinOp.eql 35 (.slice (some ⟨g, 0, none⟩) n q) (.slice none 0 0)).run Tryz.prog W = .ok (.bool false) W := fun n W => by kernel_rfl
    go_enter Tryz.func99, Tryz.ntmps99
    go_wp2_with (at_builtin; refine wpList_append_run rfl (.tmp 5) (.tmp 6) 35 rfl rfl rfl hr ?_)
    go_ret
    exact ⟨⟨_, rfl, HO.out⟩, HB.out⟩

set_option maxRecDepth 8000 in
set_option maxHeartbeats 8000000 in
theorem standingI (K : SBk) (a0 a1 a2 : Option Addr) (c0 c1 c2 : Nat) (w : World) (h : SBkV w a0 a1 a2 K) :
    Calls Tryz.prog 101 #[.agg #[.int .i64 K.now, .slice a0 K.svcs.length c0, .slice a1 K.cps.length c1, .slice a2 K.bts.length c2]] w fun e w' => (∃ mb, e = .returned (.map (some mb)) ∧ w.heap.size ≤ mb ∧ MpAt w' mb (fun nm => standTo K.cps nm K.cps.length)) ∧ Below w.heap.size w w' := by
  have HH := hid h
  have hcl := h.c.len
  unfold maxLen at hcl
  clear h
  obtain ⟨wx, hwx⟩ : ∃ wx, wx = w.alloc (.cells #[.int .i64 K.now, .slice a0 K.svcs.length c0, .slice a1 K.cps.length c1, .slice a2 K.bts.length c2] 37) := ⟨_, rfl⟩
  have HBx : Hid (Below w.heap.size w wx) := by show Below _ _ _; rw [hwx]; exact blw_alloc (Below.refl _ _) _
  have HXx : Hid (Box4 wx w.heap.size (.int .i64 K.now) (.slice a0 K.svcs.length c0) (.slice a1 K.cps.length c1) (.slice a2 K.bts.length c2)) := by show Box4 _ _ _ _ _ _; rw [hwx]; exact Box4.new' w _ _ _ _ _ _ rfl
  obtain ⟨wa, hwa⟩ : ∃ wa, wa = wx.alloc (.map #[] 0) := ⟨_, rfl⟩
  obtain ⟨mb, hmb⟩ : ∃ mb, mb = wx.heap.size := ⟨_, rfl⟩
  have hbb : Below wx.heap.size wx wa := by rw [hwa]; exact blw_alloc (Below.refl _ _) _
  have HM0 : Hid (MpAt wa mb (fun nm => standTo K.cps nm 0)) := ⟨#[], 0, by rw [hwa, hmb]; exact World.alloc_heap_new wx _, good_none⟩
  have HBa := hid (blw_trans HBx.out hbb)
  have HXa := hid (HXx.out.later hbb)
  have HMB : Hid (w.heap.size ≤ mb ∧ w.heap.size ≠ mb) := by
    have := HXx.out.lt
    exact ⟨by omega, by omega⟩
  have hmk : ∀ W : World, (Instr.makeMap 149 none).run Tryz.prog W = .ok (.map (some W.heap.size)) (W.alloc (.map #[] 0)) := fun W => by kernel_rfl
  go_enter Tryz.func101, Tryz.ntmps101
  go_upto_region 1 with fail
  rw [← hwx]
  clear hwx
  go_upto_region 2 with fail
  rw [← hwa, ← hmb]
  clear hwa hmb hbb HBx HXx hmk
  obtain ⟨yz, y0, y1, y2, y3⟩ := HXa.out
  go_wp2
  clear yz y0 y1 y2 y3
  go_loopw [10] (fun i wr => ∃ k : Nat, k ≤ K.cps.length ∧ i = .int .i64 k ∧ MpAt wr mb (fun nm => standTo K.cps nm k) ∧ BelX mb wa wr) (fun i _ => K.cps.length - (intOf i).toNat)
  case atStart => exact ⟨0, Nat.zero_le _, rfl, HM0.out, BelX.refl _ _⟩
  case round =>
    obtain ⟨k, hk, rfl, hM, hX⟩ := hrel
    have HM := hid hM
    have HX := hid hX
    have HBr : Hid (Below w.heap.size w wr) := hX.below HBa.out HMB.out.1
    clear hM hX
    by_cases hlt : k < K.cps.length
    · obtain ⟨b1, off1, ha1, hbl1, hf1⟩ := (HH.out.c.later HBr.out).at_ k hlt
      subst ha1
      obtain ⟨x, hx⟩ : ∃ x, x = K.cps.getD k Cp.none := ⟨_, rfl⟩
      rw [← hx] at hf1
      have hxz : x.berth.size ≤ maxLen := hf1.sized.2
      obtain ⟨e0, e1, e2, e3, e4, e5, e6, _⟩ := hf1
      have hm0 : (0 : Int) ≤ (k : Int) := by omega
      have hm3 : (k : Int) < (K.cps.length : Int) := by omega
      obtain ⟨w1, hw1⟩ : ∃ w1, w1 = wr.alloc (.cells #[.string x.svc, .int .i64 x.num, .int .i64 x.ver, .int .i64 x.image, .int .i64 x.state, .bool x.ending, .string x.berth] 81) := ⟨_, rfl⟩
      have hb1 : Below wr.heap.size wr w1 := by rw [hw1]; exact blw_alloc (Below.refl _ _) _
      obtain ⟨q1, hq1⟩ : ∃ q1, q1 = wr.heap.size := ⟨_, rfl⟩
      have hC1 : LBox w1 q1 [.string x.svc, .int .i64 x.num, .int .i64 x.ver, .int .i64 x.image, .int .i64 x.state, .bool x.ending, .string x.berth] := by rw [hw1]; exact LBox.new _ _ _ _ hq1
      have f6 := hC1.get 6 _ rfl
      have fz := hC1.lt
      have hM1 := HM.out.later hb1
      have hlk := mp_look hM1 x.berth hxz
      have hsl := standTo_le K.cps x.berth k
      obtain ⟨w2, hup, hM2, hX2⟩ := mp_put hM1 x.berth hxz (standTo K.cps x.berth k + 1)
      have hwr : IntKind.i64.wrap (standTo K.cps x.berth k + 1) = standTo K.cps x.berth k + 1 := by simp [IntKind.wrap, IntKind.bits, IntKind.signed]; omega
      have HM2 : Hid (MpAt w2 mb (fun nm => standTo K.cps nm (k + 1))) := by
        refine hM2.ext (fun nm => ?_)
        unfold updF
        rw [standTo, ← hx]
        by_cases hs : same nm x.berth = true
        · have e := (same_iff _ _).1 hs
          subst e
          rw [if_pos hs, if_pos hs]
        · rw [if_neg hs, if_neg (fun q => hs ((same_iff _ _).2 ((same_iff _ _).1 q).symm))]
          exact (Int.add_zero _).symm
      have HXX : Hid (BelX mb wa w2) := by
        have h1 := HX.out.on hb1
        exact ⟨hX2.os.trans h1.os, hX2.tape.trans h1.tape, hX2.output.trans h1.output, Nat.le_trans h1.size hX2.size, fun q hq hn => (hX2.block q (Nat.lt_of_lt_of_le hq h1.size) hn).trans (h1.block q hq hn)⟩
      clear hx hM1 hM2 hX2 hb1 hC1 hsl
      go_upto_region 5 with fail
      rw [← hw1, ← hq1]
      clear hw1 hq1 e0 e1 e2 e3 e4 e5 e6 hbl1
      go_wp2
      go_roundw
      case rel => exact ⟨k + 1, by omega, by go_num, HM2.out, HXX.out⟩
      case measure => simp [intOf]; omega
    · obtain rfl : k = K.cps.length := by omega
      go_wp2
      go_ret
      exact ⟨⟨mb, rfl, HMB.out.1, HM.out⟩, HBr.out⟩

set_option maxRecDepth 8000 in
set_option maxHeartbeats 8000000 in
theorem fewerI (f : ByteArray → Int) (x y : Bt) (pm mb : Nat) (w : World) (hp : w.cell? ⟨pm, 0, none⟩ = some (.map (some mb))) (hpl : pm < w.heap.size) (hM : MpAt w mb f) (hx : x.nm.size ≤ maxLen) (hy : y.nm.size ≤ maxLen) :
    Calls Tryz.prog 102 #[.agg #[.string x.nm, .bool x.drain], .agg #[.string y.nm, .bool y.drain], .pointer (some ⟨pm, 0, none⟩)] w fun e w' => e = .returned (.int .i64 (numCmp (f x.nm) (f y.nm))) ∧ Below w.heap.size w w' := by
  obtain ⟨wx, hwx⟩ : ∃ wx, wx = w.alloc (.cells #[.string x.nm, .bool x.drain] 79) := ⟨_, rfl⟩
  obtain ⟨wa, hwa⟩ : ∃ wa, wa = wx.alloc (.cells #[.string y.nm, .bool y.drain] 79) := ⟨_, rfl⟩
  have b1 : Below w.heap.size w wx := by rw [hwx]; exact blw_alloc (Below.refl _ _) _
  have b2 : Below wx.heap.size wx wa := by rw [hwa]; exact blw_alloc (Below.refl _ _) _
  have zx : wx.heap.size = w.heap.size + 1 := by rw [hwx]; exact Array.size_push _
  have hLx : LBox wa w.heap.size [.string x.nm, .bool x.drain] := by
    have : LBox wx w.heap.size [.string x.nm, .bool x.drain] := by rw [hwx]; exact LBox.new _ _ _ _ rfl
    exact this.later b2
  have hLy : LBox wa (w.heap.size + 1) [.string y.nm, .bool y.drain] := by rw [hwa]; exact LBox.new _ _ _ _ zx.symm
  have cx := hLx.get 0 _ rfl
  have cxz := hLx.lt
  have cy := hLy.get 0 _ rfl
  have cyz := hLy.lt
  have hb := blw_trans b1 b2
  have hp' := (hb.cell (p := ⟨pm, 0, none⟩) hpl).trans hp
  have hpl' := Nat.lt_of_lt_of_le hpl hb.size
  have hM' := hM.later hb
  have l1 := mp_look hM' x.nm hx
  have l2 := mp_look hM' y.nm hy
  have HB := hid hb
  clear hLx hLy b1 b2 hb hp hpl hM hM' zx
  go_enter Tryz.func102, Tryz.ntmps102
  go_upto_region 1 with fail
  rw [← hwx, ← hwa]
  clear hwx hwa
  go_wp2_with (go_at_call 96; refine (cmpI _ _ _).mono ?_; rintro e w' ⟨rfl, rfl⟩)
  go_ret
  exact ⟨rfl, HB.out⟩

end Go.Proofs.YtclagbakddkjcaaGreat

namespace Go.Proofs.YtclagbakddkjcaaGreat
open Go.RowKit Go.Deep

def openB (bt : List Bt) : List Bt := bt.filter fun b => !b.drain
def fewer (f : ByteArray → Int) (x y : Bt) : Int := numCmp (f x.nm) (f y.nm)
theorem numCmp_neg (a b : Int) : numCmp a b < 0 ↔ a < b := by
  unfold numCmp
  split
  · constructor <;> intro <;> omega
  · split <;> (constructor <;> intro <;> omega)
theorem bestB_pre (f : Bt → Bt → Int) (C D : List Bt) : ∀ k, k ≤ C.length → bestB f (C ++ D) k = bestB f C k
  | 0, _ => rfl
  | k + 1, hk => by
    rw [bestB, bestB, bestB_pre f C D k (by omega)]
    have e : (C ++ D).getD k Bt.none = C.getD k Bt.none := by
      rw [List.getD_eq_getElem?_getD, List.getD_eq_getElem?_getD, List.getElem?_append_left (by omega)]
    rw [e]
theorem bestB_mem (f : Bt → Bt → Int) (C : List Bt) : ∀ k, 0 < k → k ≤ C.length → bestB f C k ∈ C
  | 0, h, _ => by omega
  | k + 1, _, hk => by
    rw [bestB]
    split
    · have e : C.getD k Bt.none = C[k] := by simp [show k < C.length by omega]
      rw [e]; exact List.getElem_mem _
    · rename_i h
      have hk0 : k ≠ 0 := fun e => h (by simp [e])
      exact bestB_mem f C k (by omega) (by omega)
theorem bestB_snoc (f : Bt → Bt → Int) (C : List Bt) (x : Bt) : bestB f (C ++ [x]) (C.length + 1) = if (decide (C.length = 0) || decide (f x (bestB f C C.length) < 0)) = true then x else bestB f C C.length := by
  rw [bestB, bestB_pre f C [x] C.length (Nat.le_refl _)]
  have e : (C ++ [x]).getD C.length Bt.none = x := by simp
  rw [e]
/-- The best is the one with the fewest. -/
theorem least_best {K : SBk} {f : ByteArray → Int} (hn : ∀ i, i < K.bts.length → (K.bts.getD i Bt.none).nm.toList ≠ []) (hf : ∀ nm : ByteArray, nm.toList ≠ [] → f nm = standTo K.cps nm K.cps.length) :
    ∀ i, i ≤ K.bts.length → (leastTo K i).1 = (bestB (fewer f) (openB (K.bts.take i)) (openB (K.bts.take i)).length).nm ∧ (openB (K.bts.take i) ≠ [] → (leastTo K i).2 = f (leastTo K i).1 ∧ (leastTo K i).1.toList ≠ [])
  | 0, _ => ⟨by simp [openB, leastTo, bestB, Bt.none], fun h => absurd (by simp [openB]) h⟩
  | i + 1, hi => by
    obtain ⟨h1, h2⟩ := least_best hn hf i (by omega)
    obtain ⟨x, hx⟩ : ∃ x, x = K.bts.getD i Bt.none := ⟨_, rfl⟩
    have hne : x.nm.toList ≠ [] := by rw [hx]; exact hn i (by omega)
    have ht : K.bts.take (i + 1) = K.bts.take i ++ [x] := by rw [take_snoc Bt.none (by omega), hx]
    obtain ⟨C, hC⟩ : ∃ C, C = openB (K.bts.take i) := ⟨_, rfl⟩
    rw [← hC] at h1 h2
    cases hd : x.drain
    · have hO : openB (K.bts.take (i + 1)) = C ++ [x] := by
        rw [ht, hC]; unfold openB; rw [List.filter_append]; simp [hd]
      have hO2 : (C ++ [x]).length = C.length + 1 := by simp
      rw [hO, hO2, bestB_snoc, leastTo, ← hx, hd]
      have hcond : (same (leastTo K i).1 ByteArray.empty || decide (standTo K.cps x.nm K.cps.length < (leastTo K i).2)) = (decide (C.length = 0) || decide (fewer f x (bestB (fewer f) C C.length) < 0)) := by
        by_cases hc0 : C = []
        · subst hc0
          have : same (leastTo K i).1 ByteArray.empty = true := by rw [h1]; exact (same_iff _ _).2 rfl
          rw [this]; simp
        · obtain ⟨e2, e3⟩ := h2 hc0
          have hl : C.length ≠ 0 := fun e => hc0 (List.eq_nil_of_length_eq_zero e)
          have hs : same (leastTo K i).1 ByteArray.empty = false := by
            rw [Bool.eq_false_iff]
            intro q
            have := (same_iff _ _).1 q
            rw [this] at e3
            exact e3 (by kernel_rfl)
          rw [hs, decide_eq_false hl, e2, ← hf x.nm hne, h1]
          obtain ⟨b, hb⟩ : ∃ b, b = bestB (fewer f) C C.length := ⟨_, rfl⟩
          rw [← hb]
          unfold fewer
          rw [Bool.false_or, Bool.false_or]
          by_cases hlt : f x.nm < f b.nm
          · rw [decide_eq_true hlt, decide_eq_true ((numCmp_neg _ _).2 hlt)]
          · rw [decide_eq_false hlt, decide_eq_false (fun q => hlt ((numCmp_neg _ _).1 q))]
      rw [Bool.not_false, Bool.true_and, hcond]
      split
      · exact ⟨rfl, fun _ => ⟨(hf x.nm hne).symm, hne⟩⟩
      · rename_i hc
        have hc0 : C ≠ [] := fun e => hc (by rw [e]; rfl)
        exact ⟨h1, fun _ => h2 hc0⟩
    · have hO : openB (K.bts.take (i + 1)) = C := by
        rw [ht, hC]; unfold openB; rw [List.filter_append]; simp [hd]
      rw [hO, leastTo, ← hx, hd]
      exact ⟨h1, h2⟩
theorem leastOf_best {K : SBk} {f : ByteArray → Int} (hn : ∀ i, i < K.bts.length → (K.bts.getD i Bt.none).nm.toList ≠ []) (hf : ∀ nm : ByteArray, nm.toList ≠ [] → f nm = standTo K.cps nm K.cps.length) :
    leastOf K = (bestB (fewer f) (openB K.bts) (openB K.bts).length).nm := by
  have := (least_best hn hf K.bts.length (Nat.le_refl _)).1
  rw [List.take_length] at this
  exact this
theorem stand_set (M : List Cp) (i : Nat) (c : Cp) (nm : ByteArray) (hi : i < M.length) : ∀ k, standTo (M.set i c) nm k = standTo M nm k + (if i < k then (if same c.berth nm then 1 else 0) - (if same (M.getD i Cp.none).berth nm then 1 else 0) else 0)
  | 0 => by simp [standTo]
  | k + 1 => by
    rw [standTo, standTo, stand_set M i c nm hi k]
    by_cases e : i = k
    · subst e
      have : (M.set i c).getD i Cp.none = c := by simp [hi]
      rw [this, if_neg (Nat.lt_irrefl i), if_pos (Nat.lt_succ_self i)]
      omega
    · have : (M.set i c).getD k Cp.none = M.getD k Cp.none := by simp [e]
      rw [this]
      by_cases hlt : i < k
      · rw [if_pos hlt, if_pos (show i < k + 1 by omega)]; omega
      · rw [if_neg hlt, if_neg (show ¬ i < k + 1 by omega)]; omega
/-- What waits starts, from any copies. -/
def stT (K : SBk) (v : Int) (M0 : List Cp) : Nat → List Cp
  | 0 => M0
  | i + 1 => tickS K v (stT K v M0 i) i
theorem stT_tick (K : SBk) (v : Int) : ∀ i, stT K v (leftTo K.cps v K.cps.length) i = tickTo K v i
  | 0 => rfl
  | i + 1 => by rw [stT, tickTo, stT_tick K v i]
theorem stT_len (K : SBk) (v : Int) (M0 : List Cp) : ∀ i, (stT K v M0 i).length = M0.length
  | 0 => rfl
  | i + 1 => by
    rw [stT, tickS]
    split
    · rw [List.length_set]; exact stT_len K v M0 i
    · exact stT_len K v M0 i
/-- What stands behind i is as it was. -/
theorem stT_at (K : SBk) (v : Int) (M0 : List Cp) : ∀ i j, i ≤ j → (stT K v M0 i).getD j Cp.none = M0.getD j Cp.none
  | 0, _, _ => rfl
  | i + 1, j, hj => by
    rw [stT, tickS]
    split
    · rw [show ((stT K v M0 i).set i _).getD j Cp.none = (stT K v M0 i).getD j Cp.none from by simp [show i ≠ j by omega]]
      exact stT_at K v M0 i j (by omega)
    · exact stT_at K v M0 i j (by omega)
theorem least_none {K : SBk} (h : openB K.bts = []) : ∀ i, i ≤ K.bts.length → (leastTo K i).1 = ByteArray.empty
  | 0, _ => rfl
  | i + 1, hi => by
    have hm : (K.bts.getD i Bt.none) ∈ K.bts := by
      have e : K.bts.getD i Bt.none = K.bts[i] := by simp [show i < K.bts.length by omega]
      rw [e]; exact List.getElem_mem _
    have hd : (K.bts.getD i Bt.none).drain = true := by
      unfold openB at h
      rw [List.filter_eq_nil_iff] at h
      simpa using h _ hm
    rw [leastTo, hd]
    exact least_none h i (by omega)
theorem stT_stop {K : SBk} (h : openB K.bts = []) (v : Int) (M0 : List Cp) (i : Nat) : ∀ j, stT K v M0 (i + j) = stT K v M0 i
  | 0 => rfl
  | j + 1 => by
    rw [← Nat.add_assoc, stT, stT_stop h v M0 i j, tickS]
    have : leastOf ⟨K.now, K.svcs, stT K v M0 i, K.bts⟩ = ByteArray.empty := least_none (K := ⟨K.now, K.svcs, stT K v M0 i, K.bts⟩) h _ (Nat.le_refl _)
    rw [this]
    simp

end Go.Proofs.YtclagbakddkjcaaGreat
