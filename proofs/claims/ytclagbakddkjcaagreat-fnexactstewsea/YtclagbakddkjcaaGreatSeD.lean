/-
  The sea: a berth is raised, by the specification.
-/
import Derived.RangeFuncRecord
import Derived.Test.YtclagbakddkjcaaGreatRel
import Derived.Test.YtclagbakddkjcaaGreatOwS
import Derived.Test.YtclagbakddkjcaaGreatSeB
namespace Go.Proofs.YtclagbakddkjcaaGreat
open Go.RowKit Go.Deep
namespace RY

/-- What the operation j has yielded. -/
def valOf (l : List Oper) (a : Act) (j : Nat) : Value := match l[j]? with
  | some o => (match o.dst with
    | some k => a.eval (.tmp k)
    | none => undef)
  | none => undef
theorem valOf_at {l : List Oper} {a : Act} {j k : Nat} {o : Oper} (hj : l[j]? = some o) (hd : o.dst = some k) : valOf l a j = a.eval (.tmp k) := by
  unfold valOf; rw [hj]; simp only [hd]
theorem valOf_put {l : List Oper} {a : Act} {i q : Nat} {o : Oper} (hap : apartB l = true) (ho : l[i]? = some o) (hd : o.dst = some q) (hq : q < a.tmps.size) (u : Value) : valOf l (a.put (some q) u) = fun j => if j = i then u else valOf l a j := by
  funext j
  by_cases e : j = i
  · subst e
    rw [if_pos rfl, valOf_at ho hd, put_same _ _ _ hq]
  · rw [if_neg e]
    cases h : l[j]? with
    | none => unfold valOf; rw [h]
    | some o' =>
      cases h' : o'.dst with
      | none => unfold valOf; rw [h]; simp only [h']
      | some k =>
        rw [valOf_at h h', valOf_at h h', put_else _ _ _ _ (fun e2 => e (apart_spec hap h ho (by rw [h', ← e2]) hd))]
theorem up_set {L : Array Bool} {i : Nat} (h : L.getD i true = false) : (fun j => (L.setIfInBounds i true).getD j false) = fun j => (j == i) || L.getD j false := by
  funext j
  by_cases e : j = i
  · subst e; rw [set_here h]; simp
  · have : (L.setIfInBounds i true).getD j false = L.getD j false := by
      simp only [Array.getD_eq_getD_getElem?]
      rw [Array.getElem?_setIfInBounds_ne (fun e2 => e e2.symm)]
    rw [this]; simp [e]

theorem region_T {P : Program} {id : Nat} {Q : Exit → Act → World → Prop} {a0 : Act} {w : World} {l : List Oper} (V : Nat → Value → Prop) (T : (Nat → Bool) → (Nat → Value) → World → Prop) (hm : P.follows .mixedOrders = true)
    (hasc : asc .any l.toArray = true) (hap : apartB l = true) (hpl : plainB l a0.tmps.size = true) (h0 : ∀ vals, T (fun _ => false) vals w.drew)
    (hop : ∀ (up : Nat → Bool) (vals : Nat → Value) (i : Nat) (o : Oper), l[i]? = some o → up i = false → (∀ (j : Nat) (o' : Oper) (e : _), l[j]? = some o' → e ∈ o'.after → Region.binds .any e = true → up j = true → up e.on = true) →
      ∀ (a : Act) (W : World), (∀ k, noDst l k = true → a.eval (.tmp k) = a0.eval (.tmp k)) →
      (∀ (j : Nat) (o' : Oper) (k : Nat), l[j]? = some o' → o'.dst = some k → (∃ e ∈ o.after, e.on = j ∧ Region.binds .any e = true) → up j = true ∧ a.eval (.tmp k) = vals j ∧ V j (vals j)) → T up vals W →
      (∃ u W', (execOp a.eval o).run P W = .ok (.value u) W' ∧ o.dst.isSome = true ∧ V i u ∧ T (fun j => (j == i) || up j) (fun j => if j = i then u else vals j) W') ∨
      (∃ W', (execOp a.eval o).run P W = .ok .skip W' ∧ o.dst = none ∧ T (fun j => (j == i) || up j) vals W'))
    (hend : ∀ (up : Nat → Bool) (vals vs : Nat → Value) (W : World), (∀ i, i < l.length → up i = true) → (∀ (i : Nat) (o : Oper) (k : Nat), l[i]? = some o → o.dst = some k → vs k = vals i ∧ V i (vals i)) → T up vals W → Q .normal (putAll l a0 vs) W) :
    (Code.region id l.toArray true).wp P Q a0 w := by
  refine wp_region_any hm ?_
  refine wpAny_inv (fun L a W => RInv l a0 (fun _ _ => True) (fun j u _ => V j u) L a W ∧ T (fun j => L.getD j false) (valOf l a) W) ?_ ?_ _ _ _ _ ?_ (Closed.none _ (rep_none _)) ?_
  · rintro L a W i ⟨h, hT⟩ hc hi
    obtain ⟨hi1, o, ho0, hall⟩ := mem_ready.1 hi
    have ho : l[i]? = some o := by simpa using ho0
    have hg := (plain_spec hpl ho).1
    rcases hop (fun j => L.getD j false) (valOf l a) i o ho (getD_flip hi1) (fun j o' e hj he hb hu => hc j o' e (by simpa using hj) he hb hu) a W (fun k hk => h.keep hk)
      (fun j o' k hj hk ⟨e, he, hej, hb⟩ => by
        have hu : L.getD j false = true := by rw [← hej]; exact hall e he hb
        exact ⟨hu, (valOf_at hj hk).symm, by rw [valOf_at hj hk]; exact h.new j o' k hj hk hu⟩) hT with ⟨u, W', hr, hd, hV, hT'⟩ | ⟨W', hr, hd, hT'⟩
    · refine wpOp_value ho0 hg hr ⟨h.step hap hpl ho hi1 trivial (fun _ _ x => x) (fun _ => hV), ?_⟩
      obtain ⟨q, hq⟩ := Option.isSome_iff_exists.1 hd
      rw [up_set hi1, hq, valOf_put hap ho hq (by rw [h.sz]; exact (plain_spec hpl ho).2 q hq)]
      exact hT'
    · refine wpOp_skip ho0 hg hr ⟨h.step hap hpl ho hi1 trivial (fun _ _ x => x) (fun hs => by rw [hd] at hs; cases hs), ?_⟩
      rw [up_set hi1, hd, put_none]
      exact hT'
  · rintro L a W ⟨h, hT⟩ hr
    have hall : ∀ i, i < l.length → L.getD i false = true := fun i hi => all_up hr hasc (by simpa using h.len) i (by simpa using hi)
    have lt : ∀ {i : Nat} {o : Oper}, l[i]? = some o → i < l.length := fun hi => (List.getElem?_eq_some_iff.1 hi).1
    have e : a = putAll l a0 (fun k => a.eval (.tmp k)) := by
      have hs : ∀ o ∈ l, ∀ q, o.dst = some q → q < a0.tmps.size := fun o ho q hq => by
        obtain ⟨i, hi⟩ := List.getElem?_of_mem ho
        exact (plain_spec hpl hi).2 q hq
      refine act_ext (by rw [putAll_defers]; exact h.df) (by rw [putAll_size]; exact h.sz) fun k => ?_
      rw [putAll_eval l a0 _ k hs]
      by_cases hk : ∃ o ∈ l, o.dst = some k
      · rw [if_pos hk]
      · rw [if_neg hk]
        refine h.old k fun i o hi hd => absurd ⟨o, List.mem_of_getElem? hi, hd⟩ hk
    have := hend (fun j => L.getD j false) (valOf l a) (fun k => a.eval (.tmp k)) W hall (fun i o k hi hd => ⟨(valOf_at hi hd).symm, by rw [valOf_at hi hd]; exact h.new i o k hi hd (hall i (lt hi))⟩) hT
    rw [← e] at this
    exact this
  · refine ⟨⟨by simp, trivial, rfl, rfl, fun _ _ => rfl, fun i o k hi _ hl => ?_⟩, ?_⟩
    · rw [rep_none] at hl; cases hl
    · have : (fun j => (Array.replicate l.toArray.size false).getD j false) = fun _ => false := by funext j; exact rep_none _ _
      rw [this]
      exact h0 _
  · unfold left
    exact Nat.le_trans List.countP_le_length (by simp)
end RY

end Go.Proofs.YtclagbakddkjcaaGreat

namespace Go.Proofs.YtclagbakddkjcaaGreat
open Go.RowKit Go.Deep

theorem app_own {P : Program} (base : Nat) (t ty e : TypeId) (size bytes : Nat) (z : Value) (ht : P.underlying t = some (.slice e)) (hinf : (P.info? e).map (fun i => (i.zero, i.size, i.bytes)) = some (some z, size, bytes)) (hzs : z.cells.size = size) (hsz : 0 < size)
    (W : World) (g n cap : Nat) (xs : List Value) (hown : W.ownsRow base e size (.slice (some ⟨g, 0, none⟩) n cap) n xs) (a : Option Addr) (m c : Nat) (news : List Value) (hl : news.length = m * size)
    (hnews : ∀ ad, a = some ad → ∀ j u, news[j]? = some u → W.cell? (ad.add j) = some u) (hnone : a = none → m = 0) (h1 : ∀ u ∈ news, u.oneCell' = true) (hm : n + m ≤ 1048576) (hb : bytes ≤ 1000) (hbase : base ≤ W.heap.size) :
    ∃ g' cap' W', (Builtin.append_ #[t, t] ty #[.slice (some ⟨g, 0, none⟩) n cap, .slice a m c]).run P W = .ok (.slice (some ⟨g', 0, none⟩) (n + m) cap') W' ∧ W'.ownsRow base e size (.slice (some ⟨g', 0, none⟩) (n + m) cap') (n + m) (xs ++ news) ∧ BelX g W W' := by
  obtain ⟨i, hi, ei⟩ := Option.map_eq_some_iff.1 hinf
  simp only [Prod.mk.injEq] at ei
  obtain ⟨hz, hs, hby⟩ := ei
  cases a with
  | none =>
    have h0 : m = 0 := hnone rfl
    subst h0
    obtain rfl : news = [] := List.eq_nil_of_length_eq_zero (by simpa using hl)
    have hcap : n ≤ cap := by
      rcases hown.2 with ⟨hv, _⟩ | ⟨g', cap', cur, hv, _, _, hc, _⟩
      · cases hv
      · cases hv; exact hc
    have hr := run_append_room_src (P := P) W t t ty e i ht hi g 0 n cap (.slice none 0 c) 0 [] (Src.ofNil W ht c) (by omega) (fun j h => by simp at h) (fun j h => by simp at h)
    refine ⟨g, cap, W, hr, ?_, BelX.refl g W⟩
    rw [List.append_nil]; exact hown
  | some ad =>
    have hmb : (n + m) * bytes ≤ 1048576 * 1000 := Nat.mul_le_mul hm hb
    obtain ⟨v', W', hr, ho, hg, hne⟩ := run_append_own (P := P) (w := W) base t ty e i z size bytes ht hi hz hs hby hzs hsz _ n xs hown ad m c news hl (hnews ad rfl) h1 (by unfold maxLen; omega) (by omega) hbase
    rcases ho.2 with ⟨hv, _⟩ | ⟨g', cap', cur, hv, hrest⟩
    · cases (hne.1 hv).1
    · subst hv
      exact ⟨g', cap', W', hr, ho, hg.os, hg.tape, hg.output, hg.size, fun q hq hne' => hg.block q hq (fun e => by cases e; exact hne' rfl)⟩

theorem flat_take {α : Type} (f : α → List Value) (n : Nat) (hf : ∀ x, (f x).length = n) : ∀ (l : List α) (m : Nat), (l.flatMap f).take (m * n) = (l.take m).flatMap f
  | [], m => by simp
  | x :: l, 0 => by simp
  | x :: l, m + 1 => by
    rw [List.take_succ_cons, List.flatMap_cons, List.flatMap_cons, ← flat_take f n hf l m, List.take_append, hf]
    rw [List.take_of_length_le (by rw [hf, Nat.add_mul]; omega)]
    congr 2
    rw [Nat.add_mul]; omega
theorem flat_drop {α : Type} (f : α → List Value) (n : Nat) (hf : ∀ x, (f x).length = n) : ∀ (l : List α) (m : Nat), (l.flatMap f).drop (m * n) = (l.drop m).flatMap f
  | [], m => by simp
  | x :: l, 0 => by simp
  | x :: l, m + 1 => by
    rw [List.drop_succ_cons, List.flatMap_cons, ← flat_drop f n hf l m, List.drop_append, hf]
    rw [List.drop_eq_nil_of_le (by rw [hf, Nat.add_mul]; omega), List.nil_append]
    congr 1
    rw [Nat.add_mul]; omega

end Go.Proofs.YtclagbakddkjcaaGreat

namespace Go.Proofs.YtclagbakddkjcaaGreat
open Go.RowKit Go.Deep

theorem Tryz.undBts : Tryz.prog.underlying 35 = some (.slice 79) := by kernel_rfl
theorem Tryz.infBts : (Tryz.prog.info? 79).map (fun i => (i.zero, i.size, i.bytes)) = some (some (.agg #[.string ByteArray.empty, .bool false]), 2, 24) := by kernel_rfl
theorem wpList_append_run {P : Program} {ops : Array Oper} {rest : List Oper} {o : Oper} {a : Act} {W W' : World} {Q : Exit → Act → World → Prop} (hgd : o.guard = none) (s x : Operand) (t : TypeId) (ho : o.op = .call { callee := .builtin .append, args := #[s, x], argTypes := #[t, t] }) {v u v' : Value} (hs : a.eval s = v) (hx : a.eval x = u)
    (hr : (Builtin.append_ #[t, t] o.type #[v, u]).run P W = .ok v' W') (h : wpList P ops Q rest (a.put o.dst v') W') : wpList P ops Q (o :: rest) a W :=
  wpList_plain hgd fun _ hK => by
    unfold Oper.wp
    rw [exec_append s x t ho hs hx hr]
    exact hK _ _ h
/-- What is read of a row: the cells of these berths. -/
def SrcBt (R : World) (A : Option Addr) (l : List Bt) : Prop := (∀ ad, A = some ad → ad.block < R.heap.size ∧ ∀ i u, (l.flatMap BtC)[i]? = some u → R.cell? (ad.add i) = some u) ∧ (A = none → l.length = 0)
theorem adr_blk (ad : Addr) (i : Nat) : (ad.add i).block = ad.block := by
  unfold Addr.add
  split <;> rfl
theorem BtC_one' (l : List Bt) : ∀ u ∈ l.flatMap BtC, u.oneCell' = true := by
  intro u hu
  obtain ⟨m, _, hm⟩ := List.mem_flatMap.1 hu
  have : u = .string m.nm ∨ u = .bool m.drain := by simpa [BtC] using hm
  rcases this with e | e <;> (subst e; rfl)

theorem raise_rows (R : World) (l1 l2 : List Bt) (A1 A2 : Option Addr) (q c2 : Nat) (nm : ByteArray) (dr : Bool) (s1 : SrcBt R A1 l1) (s2 : SrcBt R A2 l2) (hn : l1.length + 1 + l2.length ≤ 1048576) :
    ∃ g1 p1 W1 g2 p2 W2 g3 p3 W3,
      (Builtin.append_ #[35, 35] 35 #[.slice (some ⟨R.heap.size, 0, none⟩) 0 0, .slice A1 l1.length q]).run Tryz.prog (R.alloc (.cells #[] 79)) = .ok (.slice (some ⟨g1, 0, none⟩) l1.length p1) W1 ∧
      (Builtin.append_ #[35, 35] 35 #[.slice (some ⟨g1, 0, none⟩) l1.length p1, .slice (some ⟨W1.heap.size, 0, none⟩) 1 1]).run Tryz.prog (W1.alloc (.cells #[.string nm, .bool dr] 79)) = .ok (.slice (some ⟨g2, 0, none⟩) (l1.length + 1) p2) W2 ∧
      (Builtin.append_ #[35, 35] 35 #[.slice (some ⟨g2, 0, none⟩) (l1.length + 1) p2, .slice A2 l2.length c2]).run Tryz.prog W2 = .ok (.slice (some ⟨g3, 0, none⟩) (l1.length + 1 + l2.length) p3) W3 ∧
      W3.ownsRow R.heap.size 79 2 (.slice (some ⟨g3, 0, none⟩) (l1.length + 1 + l2.length) p3) (l1.length + 1 + l2.length) ((l1 ++ [(⟨nm, dr⟩ : Bt)] ++ l2).flatMap BtC) ∧ Below R.heap.size R W3 := by
  have fl : ∀ l : List Bt, (l.flatMap BtC).length = l.length * 2 := flat_len BtC 2 BtC_len
  obtain ⟨W0, hW0⟩ : ∃ W0, W0 = R.alloc (.cells #[] 79) := ⟨_, rfl⟩
  have hb0 : Below R.heap.size R W0 := by rw [hW0]; exact blw_alloc (Below.refl _ _) _
  have hz0 : R.heap.size < W0.heap.size := by rw [hW0]; simp
  have ho0 : W0.ownsRow R.heap.size 79 2 (.slice (some ⟨R.heap.size, 0, none⟩) 0 0) 0 [] := by
    refine ⟨by simp, Or.inr ⟨R.heap.size, 0, #[], rfl, Nat.le_refl _, ?_, Nat.le_refl _, by simp, by simp, by simp⟩⟩
    rw [hW0]
    exact World.alloc_heap_new _ _
  rw [← hW0]
  have src : ∀ (W : World), Below R.heap.size R W → ∀ {A : Option Addr} {l : List Bt}, SrcBt R A l → ∀ ad, A = some ad → ∀ j u, (l.flatMap BtC)[j]? = some u → W.cell? (ad.add j) = some u := fun W hW A l s ad e j u hu => by
    obtain ⟨h1, h2⟩ := s.1 ad e
    exact (hW.cell (by rw [adr_blk]; exact h1)).trans (h2 j u hu)
  obtain ⟨g1, p1, W1, r1, o1, b1⟩ := app_own (P := Tryz.prog) R.heap.size 35 35 79 2 24 _ Tryz.undBts Tryz.infBts rfl (by omega) W0 R.heap.size 0 0 [] ho0 A1 l1.length q (l1.flatMap BtC) (fl l1) (src W0 hb0 s1) s1.2 (BtC_one' l1) (by omega) (by omega) hb0.size
  rw [Nat.zero_add, List.nil_append] at o1
  rw [Nat.zero_add] at r1
  have hb1 : Below R.heap.size R W1 := b1.below hb0 (Nat.le_refl _)
  obtain ⟨V1, hV1⟩ : ∃ V1, V1 = W1.alloc (.cells #[.string nm, .bool dr] 79) := ⟨_, rfl⟩
  have hv1 : Below W1.heap.size W1 V1 := by rw [hV1]; exact blw_alloc (Below.refl _ _) _
  have hbv : Below R.heap.size R V1 := blw_trans hb1 hv1
  have hnew : ∀ ad, some (⟨W1.heap.size, 0, none⟩ : Addr) = some ad → ∀ j u, ([(⟨nm, dr⟩ : Bt)].flatMap BtC)[j]? = some u → V1.cell? (ad.add j) = some u := by
    intro ad e j u hu
    have e' : ad = ⟨W1.heap.size, 0, none⟩ := (Option.some.inj e).symm
    rw [e', addN, Nat.zero_add, hV1]
    have e2 : [(⟨nm, dr⟩ : Bt)].flatMap BtC = [.string nm, .bool dr] := rfl
    rw [e2] at hu
    exact (LBox.new W1 #[.string nm, .bool dr] _ _ rfl).get j u hu
  obtain ⟨g2, p2, W2, r2, o2, b2⟩ := app_own (P := Tryz.prog) R.heap.size 35 35 79 2 24 _ Tryz.undBts Tryz.infBts rfl (by omega) V1 g1 l1.length p1 (l1.flatMap BtC) (owns_on o1 hv1) (some ⟨W1.heap.size, 0, none⟩) 1 1 ([(⟨nm, dr⟩ : Bt)].flatMap BtC) rfl hnew (fun e => by cases e) (BtC_one' _) (by omega) (by omega) hbv.size
  have hg1 : R.heap.size ≤ g1 := by
    rcases o1.2 with ⟨hv, _⟩ | ⟨g', _, _, hv, hb, _⟩
    · cases hv
    · injection hv with a _ _; injection a with a; injection a with a _ _; omega
  have hg2 : R.heap.size ≤ g2 := by
    rcases o2.2 with ⟨hv, _⟩ | ⟨g', _, _, hv, hb, _⟩
    · cases hv
    · injection hv with a _ _; injection a with a; injection a with a _ _; omega
  have hb2 : Below R.heap.size R W2 := b2.below hbv hg1
  obtain ⟨g3, p3, W3, r3, o3, b3⟩ := app_own (P := Tryz.prog) R.heap.size 35 35 79 2 24 _ Tryz.undBts Tryz.infBts rfl (by omega) W2 g2 (l1.length + 1) p2 _ o2 A2 l2.length c2 (l2.flatMap BtC) (fl l2) (src W2 hb2 s2) s2.2 (BtC_one' l2) (by omega) (by omega) hb2.size
  refine ⟨g1, p1, W1, g2, p2, W2, g3, p3, W3, r1, by rw [← hV1]; exact r2, r3, ?_, b3.below hb2 hg2⟩
  rw [List.flatMap_append, List.flatMap_append]
  exact o3

end Go.Proofs.YtclagbakddkjcaaGreat

namespace Go.Proofs.YtclagbakddkjcaaGreat
open Go.RowKit Go.Deep

/-- The place of a berth's name. -/
def posB (l : List Bt) (nm : ByteArray) : Nat := if firstTo (fun i => !Pl.less (l.getD i Bt.none).nm nm) l.length < 0 then l.length else (firstTo (fun i => !Pl.less (l.getD i Bt.none).nm nm) l.length).toNat
def raiseOf (l : List Bt) (nm : ByteArray) (dr : Bool) : List Bt :=
  l.take (posB l nm) ++ [⟨nm, dr⟩] ++ (if decide (posB l nm < l.length) && same (l.getD (posB l nm) Bt.none).nm nm then l.drop (posB l nm + 1) else l.drop (posB l nm))
theorem pos_end {l : List Bt} {nm : ByteArray} (h : ∀ j, j < l.length → Pl.less (l.getD j Bt.none).nm nm = true) : posB l nm = l.length := by
  unfold posB
  rw [firstTo_none (fun i hi => by rw [h i hi]; rfl)]
  rfl
theorem pos_at {l : List Bt} {nm : ByteArray} {k : Nat} (hk : k < l.length) (h : ∀ j, j < k → Pl.less (l.getD j Bt.none).nm nm = true) (hn : Pl.less (l.getD k Bt.none).nm nm = false) : posB l nm = k := by
  unfold posB
  rw [firstTo_hit (p := fun i => !Pl.less (l.getD i Bt.none).nm nm) hk (by rw [hn]; rfl) (fun i hi => by rw [h i hi]; rfl), if_neg (by omega)]
  exact Int.toNat_natCast k
theorem src_part {R : World} {g : Nat} {l : List Bt} (hg : g < R.heap.size) (h : ∀ j u, (l.flatMap BtC)[j]? = some u → R.cell? ⟨g, j, none⟩ = some u) (o : Nat) : SrcBt R (some ⟨g, o * 2, none⟩) (l.drop o) := by
  refine ⟨fun ad e => ?_, fun e => by cases e⟩
  have e' : ad = ⟨g, o * 2, none⟩ := (Option.some.inj e).symm
  rw [e']
  refine ⟨hg, fun i u hu => ?_⟩
  rw [addN]
  rw [← flat_drop BtC 2 BtC_len, List.getElem?_drop] at hu
  exact h _ u hu
theorem src_head {R : World} {g : Nat} {l : List Bt} (hg : g < R.heap.size) (h : ∀ j u, (l.flatMap BtC)[j]? = some u → R.cell? ⟨g, j, none⟩ = some u) (m : Nat) : SrcBt R (some ⟨g, 0, none⟩) (l.take m) := by
  refine ⟨fun ad e => ?_, fun e => by cases e⟩
  have e' : ad = ⟨g, 0, none⟩ := (Option.some.inj e).symm
  rw [e']
  refine ⟨hg, fun i u hu => ?_⟩
  rw [addN, Nat.zero_add]
  rw [← flat_take BtC 2 BtC_len, List.getElem?_take] at hu
  split at hu
  · exact h _ u hu
  · cases hu

set_option maxRecDepth 8000 in
set_option maxHeartbeats 16000000 in
theorem l17RaiseS (now : Int) (a0 a1 : Option Addr) (n0 n1 c0 c1 : Nat) (l : List Bt) (a : Option Addr) (c lo : Nat) (nm : ByteArray) (dr : Bool) (w : World) (h : w.ownsRow lo 79 2 (.slice a l.length c) l.length (l.flatMap BtC)) (hl : l.length ≤ 100000) :
    Calls Tryz.prog 48 #[.agg #[.int .i64 now, .slice a0 n0 c0, .slice a1 n1 c1, .slice a l.length c], .string nm, .bool dr] w fun e w' => (∃ a' c', e = .returned (.agg #[.int .i64 now, .slice a0 n0 c0, .slice a1 n1 c1, .slice a' (raiseOf l nm dr).length c']) ∧ w'.ownsRow (w.heap.size + 2) 79 2 (.slice a' (raiseOf l nm dr).length c') (raiseOf l nm dr).length ((raiseOf l nm dr).flatMap BtC)) ∧ Below w.heap.size w w' := by
  obtain ⟨wx, hwx⟩ : ∃ wx, wx = w.alloc (.cells #[.int .i64 now, .slice a0 n0 c0, .slice a1 n1 c1, .slice a l.length c] 37) := ⟨_, rfl⟩
  have hx : wx.heap.size = w.heap.size + 1 := by rw [hwx]; exact Array.size_push _
  obtain ⟨wa, hwa⟩ : ∃ wa, wa = wx.alloc (.cells #[.int .i64 0, .slice none 0 0, .slice none 0 0, .slice none 0 0] 37) := ⟨_, rfl⟩
  have hbx : Below w.heap.size w wx := by rw [hwx]; exact blw_alloc (Below.refl _ _) _
  have hbxa : Below wx.heap.size wx wa := by rw [hwa]; exact blw_alloc (Below.refl _ _) _
  have HB := hid (blw_trans hbx hbxa)
  have HXX : Hid (Box4 wa w.heap.size (.int .i64 now) (.slice a0 n0 c0) (.slice a1 n1 c1) (.slice a l.length c)) := by
    have : Box4 wx w.heap.size (.int .i64 now) (.slice a0 n0 c0) (.slice a1 n1 c1) (.slice a l.length c) := by rw [hwx]; exact Box4.new' w _ _ _ _ _ _ rfl
    exact this.later hbxa
  have HXO : Hid (OwnBlk wa w.heap.size 37 4) := by
    have : OwnBlk wx w.heap.size 37 4 := by rw [hwx]; exact OwnBlk.alloc w _ _ _ rfl
    exact this.later hbxa
  have HRR : Hid (OwnBlk wa (w.heap.size + 1) 37 4) := by show OwnBlk _ _ _ _; rw [hwa, ← hx]; exact OwnBlk.alloc wx _ _ _ rfl
  have HSZ : Hid (wa.heap.size = w.heap.size + 2) := by show _ = _; rw [hwa]; exact (Array.size_push _).trans (by rw [hx])
  have HO := hid (owns_on h HB.out)
  clear h
  go_enter Tryz.func48, Tryz.ntmps48
  go_upto_region 1 with fail
  rw [← hwx, ← hwa]
  clear hwx hwa hbx hbxa hx
  go_wp2
  go_loopw [7] (fun i wr => ∃ k : Nat, k ≤ l.length ∧ i = .int .i64 k ∧ wr = wa ∧ ∀ j, j < k → Pl.less (l.getD j Bt.none).nm nm = true) (fun i _ => l.length - (intOf i).toNat)
  case atStart => exact ⟨0, Nat.zero_le _, rfl, rfl, fun j hj => absurd hj (Nat.not_lt_zero j)⟩
  case round =>
    obtain ⟨k, hk, rfl, hwr, hall⟩ := hrel
    subst hwr
    have HA := hid hall
    clear hall
    obtain ⟨yz, y0, y1, y2, y3⟩ := HXX.out
    by_cases hlt : k < l.length
    · obtain ⟨g, c', ev, hlo, hgl, hcell⟩ := owns_cells HO.out (by omega)
      injection ev with ev1 ev2 ev3
      subst ev1
      subst ev3
      clear ev2
      have hcap : l.length ≤ c := by
        rcases HO.out.2 with ⟨hv, _⟩ | ⟨g', cap, cur, hv, _, _, hc, _⟩
        · cases hv
        · injection hv with _ _ e; omega
      obtain ⟨x, hx⟩ : ∃ x, x = l.getD k Bt.none := ⟨_, rfl⟩
      have f0 : wr.cell? ⟨g, k * 2, none⟩ = some (.string x.nm) := hcell (k * 2 + 0) _ ((flat_at Bt.none BtC 2 BtC_len l k 0 hlt (by omega)).trans (by rw [← hx]; rfl))
      have HXE := hid hx
      have HCL := hid hcell
      clear hx hcell
      have hm0 : (0 : Int) ≤ (k : Int) := by omega
      have hm3 : (k : Int) < (l.length : Int) := by omega
      cases hc : Op.bytesLess x.nm.toList nm.toList
      · have HP : Hid (posB l nm = k) := pos_at hlt HA.out (by rw [← HXE.out]; exact hc)
        have hq1 : (k : Int) ≤ (c : Int) := by omega
        have hq2 : (k : Int) ≤ (l.length : Int) := by omega
        have hck : ¬ c = k := by omega
        have hsl1 : ∀ W, (Instr.slice 35 (.slice (some ⟨g, 0, none⟩) l.length c) (some (.int .i64 (k : Nat))) none none).run Tryz.prog W = .ok (.slice (some ⟨g, k * 2, none⟩) (l.length - k) (c - k)) W := fun W => by simp [Instr.slice, go_sem, hm0, hq2, hck]
        have hsl2 : ∀ W, (Instr.slice 35 (.slice (some ⟨g, 0, none⟩) l.length c) none (some (.int .i64 (k : Nat))) none).run Tryz.prog W = .ok (.slice (some ⟨g, 0, none⟩) k c) W := fun W => by simp [Instr.slice, go_sem, hm0, hq1]
        have hlp : (0 : Int) < ((l.length - k : Nat) : Int) := by omega
        cases hs : (x.nm.toList == nm.toList)
        · have hs1 := src_head hgl HCL.out k
          have hs2 := src_part hgl HCL.out k
          go_upto_region 7 with fail
          have e1 : (l.take k).length = k := by rw [List.length_take] <;> omega
          have e2 : (l.drop k).length = (l.length - k) := by rw [List.length_drop] <;> omega
          obtain ⟨g1, p1, W1, g2, p2, W2, g3, p3, W3, r1, r2, r3, hown, hbel⟩ := raise_rows wr (l.take k) (l.drop k) (some ⟨g, 0, none⟩) (some ⟨g, k * 2, none⟩) c (c - k) nm dr hs1 hs2 (by rw [e1, e2]; omega)
          rw [e1] at r1 r2 r3 hown
          rw [e2] at r3 hown
          have HOW := hid hown
          have HBX := hid (HXX.out.later hbel)
          have HBO := hid (HXO.out.later hbel)
          have HBR := hid (HRR.out.later hbel)
          have HBB := hid (blw_trans HB.out hbel)
          have HRA : Hid (raiseOf l nm dr = l.take k ++ [⟨nm, dr⟩] ++ l.drop k) := by show _ = _; rw [raiseOf, HP.out, decide_eq_true hlt, ← HXE.out, show same x.nm nm = false from hs]; rfl
          have HRL : Hid ((raiseOf l nm dr).length = (k + 1 + (l.length - k))) := by show _ = _; rw [HRA.out, List.length_append, List.length_append, e1, e2]; rfl
          clear hown hbel hs1 hs2 e1 e2
          have z3 := HBX.out.x3
          have zz := HBX.out.lt
          have ff := HBO.out.frozen
          obtain ⟨W4, hW4⟩ : ∃ W4, W4 = W3.setCell ⟨w.heap.size, 3, none⟩ (.slice (some ⟨g3, 0, none⟩) (k + 1 + (l.length - k)) p3) := ⟨_, rfl⟩
          have HB4 : Hid (Box4 W4 w.heap.size (.int .i64 now) (.slice a0 n0 c0) (.slice a1 n1 c1) (.slice (some ⟨g3, 0, none⟩) (k + 1 + (l.length - k)) p3)) := by
            have e : ∀ o, o ≠ 3 → W4.cell? ⟨w.heap.size, o, none⟩ = W3.cell? ⟨w.heap.size, o, none⟩ := fun o ho => by rw [hW4]; exact sc_ne _ _ _ _ _ _ (Or.inr ho)
            exact ⟨by rw [hW4]; simpa [World.setCell] using HBX.out.lt, (e 0 (by decide)).trans HBX.out.x0, (e 1 (by decide)).trans HBX.out.x1, (e 2 (by decide)).trans HBX.out.x2, by rw [hW4]; exact sc_eq HBO.out 3 (by omega) _⟩
          have hge : ∀ g, (Value.slice (some ⟨g3, 0, none⟩) (k + 1 + (l.length - k)) p3).ownBlock = some g → w.heap.size + 2 ≤ g := fun g hg => by have := (World.ownsRow.lt HOW.out g hg).1; have := HSZ.out; omega
          have HO4 : Hid (W4.ownsRow wr.heap.size 79 2 (.slice (some ⟨g3, 0, none⟩) (k + 1 + (l.length - k)) p3) (k + 1 + (l.length - k)) ((l.take k ++ [(⟨nm, dr⟩ : Bt)] ++ l.drop k).flatMap BtC)) := by
            show World.ownsRow _ _ _ _ _ _ _
            rw [hW4]
            exact owns_scn HOW.out (fun g hg => by have := hge g hg; omega) _ _
          have HR4 : Hid (OwnBlk W4 (w.heap.size + 1) 37 4) := by show OwnBlk _ _ _ _; rw [hW4]; exact HBR.out.sc_other (by omega) _ _
          have HBB4 : Hid (Below w.heap.size w W4) := by show Below _ _ _; rw [hW4]; exact puts_below 3 (Nat.le_refl _) [_] _ 0 HBB.out
          go_upto_region 8 with (at_builtin; first | refine wpList_append_run rfl (.tmp 43) (.tmp 47) 35 rfl rfl rfl r1 ?_ | refine wpList_append_run rfl (.tmp 48) (.tmp 52) 35 rfl rfl rfl r2 ?_ | refine wpList_append_run rfl (.tmp 53) (.tmp 54) 35 rfl rfl rfl r3 ?_)
          rw [← hW4]
          clear hW4 r1 r2 r3 z3 zz ff HBX HBO HBR HBB HOW yz y0 y1 y2 y3
          obtain ⟨yz, y0, y1, y2, y3⟩ := HB4.out
          have hth := RY.own_there HR4.out
          have hrt : World.rangeAt (W4.setCells (w.heap.size + 1) 0 [.int .i64 now, .slice a0 n0 c0, .slice a1 n1 c1, .slice (some ⟨g3, 0, none⟩) (k + 1 + (l.length - k)) p3]) (w.heap.size + 1) 0 [.int .i64 now, .slice a0 n0 c0, .slice a1 n1 c1, .slice (some ⟨g3, 0, none⟩) (k + 1 + (l.length - k)) p3] := World.rangeAt_setCells_same _ _ _ _ hth
          have hne : ∀ g, (Value.slice (some ⟨g3, 0, none⟩) (k + 1 + (l.length - k)) p3).ownBlock = some g → g ≠ w.heap.size + 1 := fun g hg => by have := hge g hg; omega
          have HF : Hid (World.ownsRow (W4.setCells (w.heap.size + 1) 0 [.int .i64 now, .slice a0 n0 c0, .slice a1 n1 c1, .slice (some ⟨g3, 0, none⟩) (k + 1 + (l.length - k)) p3]) wr.heap.size 79 2 (.slice (some ⟨g3, 0, none⟩) (k + 1 + (l.length - k)) p3) (k + 1 + (l.length - k)) ((l.take k ++ [(⟨nm, dr⟩ : Bt)] ++ l.drop k).flatMap BtC) ∧ Below w.heap.size w (W4.setCells (w.heap.size + 1) 0 [.int .i64 now, .slice a0 n0 c0, .slice a1 n1 c1, .slice (some ⟨g3, 0, none⟩) (k + 1 + (l.length - k)) p3])) :=
            ⟨owns_scn (owns_scn (owns_scn (owns_scn HO4.out hne _ _) hne _ _) hne _ _) hne _ _, puts_below 0 (by omega) [.int .i64 now, .slice a0 n0 c0, .slice a1 n1 c1, .slice (some ⟨g3, 0, none⟩) (k + 1 + (l.length - k)) p3] _ 0 HBB4.out⟩
          clear hge hne
          go_wp2_with (refine wpList_store_mid rfl 37 _ _ rfl (w.heap.size + 1) 0 #[.int .i64 now, .slice a0 n0 c0, .slice a1 n1 c1, .slice (some ⟨g3, 0, none⟩) (k + 1 + (l.length - k)) p3] rfl rfl hth (by kernel_rfl) (by simp [Value.oneCell']) ?_)
          simp only [Act.put]
          refine bodyPost_ret (v := .agg #[.int .i64 now, .slice a0 n0 c0, .slice a1 n1 c1, .slice (some ⟨g3, 0, none⟩) (k + 1 + (l.length - k)) p3]) (by simp [results, Tryz.results48, asAddr, run_loadVar_mid (P := Tryz.prog) _ _ _ 37 [.int .i64 now, .slice a0 n0 c0, .slice a1 n1 c1, .slice (some ⟨g3, 0, none⟩) (k + 1 + (l.length - k)) p3] _ hrt Tryz.underlying37 rfl (by kernel_rfl)]) rfl ?_
          refine ⟨⟨some ⟨g3, 0, none⟩, p3, by rw [HRL.out], ?_⟩, HF.out.2⟩
          rw [HRL.out, HRA.out, ← HSZ.out]
          exact HF.out.1
        · obtain ⟨A3, hsl3, hs2⟩ : ∃ A3, (∀ W, (Instr.slice 35 (.slice (some ⟨g, k * 2, none⟩) (l.length - k) (c - k)) (some (.int .i64 1)) none none).run Tryz.prog W = .ok (.slice A3 (l.length - k - 1) (c - k - 1)) W) ∧ SrcBt wr A3 (l.drop (k + 1)) := by
            have h1 : (1 : Int) ≤ ((l.length - k : Nat) : Int) := by omega
            have hd := src_part hgl HCL.out (k + 1)
            by_cases hc1 : c - k = 1
            · refine ⟨some ⟨g, k * 2, none⟩, fun W => by simp [Instr.slice, go_sem, h1, hc1], fun ad e => ?_, fun e => by cases e⟩
              have hnil : l.drop (k + 1) = [] := List.drop_eq_nil_of_le (by omega)
              rw [hnil]
              have e' : ad = ⟨g, k * 2, none⟩ := (Option.some.inj e).symm
              rw [e']
              exact ⟨hgl, fun i u hu => by simp at hu⟩
            · exact ⟨some ⟨g, (k + 1) * 2, none⟩, fun W => by simp [Instr.slice, go_sem, h1, hc1, Nat.add_mul], hd⟩
          have hs1 := src_head hgl HCL.out k
          go_upto_region 7 with fail
          have e1 : (l.take k).length = k := by rw [List.length_take] <;> omega
          have e2 : (l.drop (k + 1)).length = (l.length - k - 1) := by rw [List.length_drop] <;> omega
          obtain ⟨g1, p1, W1, g2, p2, W2, g3, p3, W3, r1, r2, r3, hown, hbel⟩ := raise_rows wr (l.take k) (l.drop (k + 1)) (some ⟨g, 0, none⟩) (A3) c (c - k - 1) nm dr hs1 hs2 (by rw [e1, e2]; omega)
          rw [e1] at r1 r2 r3 hown
          rw [e2] at r3 hown
          have HOW := hid hown
          have HBX := hid (HXX.out.later hbel)
          have HBO := hid (HXO.out.later hbel)
          have HBR := hid (HRR.out.later hbel)
          have HBB := hid (blw_trans HB.out hbel)
          have HRA : Hid (raiseOf l nm dr = l.take k ++ [⟨nm, dr⟩] ++ l.drop (k + 1)) := by show _ = _; rw [raiseOf, HP.out, decide_eq_true hlt, ← HXE.out, show same x.nm nm = true from hs]; rfl
          have HRL : Hid ((raiseOf l nm dr).length = (k + 1 + (l.length - k - 1))) := by show _ = _; rw [HRA.out, List.length_append, List.length_append, e1, e2]; rfl
          clear hown hbel hs1 hs2 e1 e2
          have z3 := HBX.out.x3
          have zz := HBX.out.lt
          have ff := HBO.out.frozen
          obtain ⟨W4, hW4⟩ : ∃ W4, W4 = W3.setCell ⟨w.heap.size, 3, none⟩ (.slice (some ⟨g3, 0, none⟩) (k + 1 + (l.length - k - 1)) p3) := ⟨_, rfl⟩
          have HB4 : Hid (Box4 W4 w.heap.size (.int .i64 now) (.slice a0 n0 c0) (.slice a1 n1 c1) (.slice (some ⟨g3, 0, none⟩) (k + 1 + (l.length - k - 1)) p3)) := by
            have e : ∀ o, o ≠ 3 → W4.cell? ⟨w.heap.size, o, none⟩ = W3.cell? ⟨w.heap.size, o, none⟩ := fun o ho => by rw [hW4]; exact sc_ne _ _ _ _ _ _ (Or.inr ho)
            exact ⟨by rw [hW4]; simpa [World.setCell] using HBX.out.lt, (e 0 (by decide)).trans HBX.out.x0, (e 1 (by decide)).trans HBX.out.x1, (e 2 (by decide)).trans HBX.out.x2, by rw [hW4]; exact sc_eq HBO.out 3 (by omega) _⟩
          have hge : ∀ g, (Value.slice (some ⟨g3, 0, none⟩) (k + 1 + (l.length - k - 1)) p3).ownBlock = some g → w.heap.size + 2 ≤ g := fun g hg => by have := (World.ownsRow.lt HOW.out g hg).1; have := HSZ.out; omega
          have HO4 : Hid (W4.ownsRow wr.heap.size 79 2 (.slice (some ⟨g3, 0, none⟩) (k + 1 + (l.length - k - 1)) p3) (k + 1 + (l.length - k - 1)) ((l.take k ++ [(⟨nm, dr⟩ : Bt)] ++ l.drop (k + 1)).flatMap BtC)) := by
            show World.ownsRow _ _ _ _ _ _ _
            rw [hW4]
            exact owns_scn HOW.out (fun g hg => by have := hge g hg; omega) _ _
          have HR4 : Hid (OwnBlk W4 (w.heap.size + 1) 37 4) := by show OwnBlk _ _ _ _; rw [hW4]; exact HBR.out.sc_other (by omega) _ _
          have HBB4 : Hid (Below w.heap.size w W4) := by show Below _ _ _; rw [hW4]; exact puts_below 3 (Nat.le_refl _) [_] _ 0 HBB.out
          go_upto_region 8 with (at_builtin; first | refine wpList_append_run rfl (.tmp 43) (.tmp 47) 35 rfl rfl rfl r1 ?_ | refine wpList_append_run rfl (.tmp 48) (.tmp 52) 35 rfl rfl rfl r2 ?_ | refine wpList_append_run rfl (.tmp 53) (.tmp 54) 35 rfl rfl rfl r3 ?_)
          rw [← hW4]
          clear hW4 r1 r2 r3 z3 zz ff HBX HBO HBR HBB HOW yz y0 y1 y2 y3
          obtain ⟨yz, y0, y1, y2, y3⟩ := HB4.out
          have hth := RY.own_there HR4.out
          have hrt : World.rangeAt (W4.setCells (w.heap.size + 1) 0 [.int .i64 now, .slice a0 n0 c0, .slice a1 n1 c1, .slice (some ⟨g3, 0, none⟩) (k + 1 + (l.length - k - 1)) p3]) (w.heap.size + 1) 0 [.int .i64 now, .slice a0 n0 c0, .slice a1 n1 c1, .slice (some ⟨g3, 0, none⟩) (k + 1 + (l.length - k - 1)) p3] := World.rangeAt_setCells_same _ _ _ _ hth
          have hne : ∀ g, (Value.slice (some ⟨g3, 0, none⟩) (k + 1 + (l.length - k - 1)) p3).ownBlock = some g → g ≠ w.heap.size + 1 := fun g hg => by have := hge g hg; omega
          have HF : Hid (World.ownsRow (W4.setCells (w.heap.size + 1) 0 [.int .i64 now, .slice a0 n0 c0, .slice a1 n1 c1, .slice (some ⟨g3, 0, none⟩) (k + 1 + (l.length - k - 1)) p3]) wr.heap.size 79 2 (.slice (some ⟨g3, 0, none⟩) (k + 1 + (l.length - k - 1)) p3) (k + 1 + (l.length - k - 1)) ((l.take k ++ [(⟨nm, dr⟩ : Bt)] ++ l.drop (k + 1)).flatMap BtC) ∧ Below w.heap.size w (W4.setCells (w.heap.size + 1) 0 [.int .i64 now, .slice a0 n0 c0, .slice a1 n1 c1, .slice (some ⟨g3, 0, none⟩) (k + 1 + (l.length - k - 1)) p3])) :=
            ⟨owns_scn (owns_scn (owns_scn (owns_scn HO4.out hne _ _) hne _ _) hne _ _) hne _ _, puts_below 0 (by omega) [.int .i64 now, .slice a0 n0 c0, .slice a1 n1 c1, .slice (some ⟨g3, 0, none⟩) (k + 1 + (l.length - k - 1)) p3] _ 0 HBB4.out⟩
          clear hge hne
          go_wp2_with (refine wpList_store_mid rfl 37 _ _ rfl (w.heap.size + 1) 0 #[.int .i64 now, .slice a0 n0 c0, .slice a1 n1 c1, .slice (some ⟨g3, 0, none⟩) (k + 1 + (l.length - k - 1)) p3] rfl rfl hth (by kernel_rfl) (by simp [Value.oneCell']) ?_)
          simp only [Act.put]
          refine bodyPost_ret (v := .agg #[.int .i64 now, .slice a0 n0 c0, .slice a1 n1 c1, .slice (some ⟨g3, 0, none⟩) (k + 1 + (l.length - k - 1)) p3]) (by simp [results, Tryz.results48, asAddr, run_loadVar_mid (P := Tryz.prog) _ _ _ 37 [.int .i64 now, .slice a0 n0 c0, .slice a1 n1 c1, .slice (some ⟨g3, 0, none⟩) (k + 1 + (l.length - k - 1)) p3] _ hrt Tryz.underlying37 rfl (by kernel_rfl)]) rfl ?_
          refine ⟨⟨some ⟨g3, 0, none⟩, p3, by rw [HRL.out], ?_⟩, HF.out.2⟩
          rw [HRL.out, HRA.out, ← HSZ.out]
          exact HF.out.1
      · have HA2 : Hid (∀ j, j < k + 1 → Pl.less (l.getD j Bt.none).nm nm = true) := by
          intro j hj
          by_cases e : j = k
          · subst e; rw [← HXE.out]; exact hc
          · exact HA.out j (by omega)
        clear HA HXE HCL
        go_wp2
        go_roundw
        case rel => exact ⟨k + 1, by omega, by go_num, by first | rfl | trivial, HA2.out⟩
        case measure => simp [intOf]; omega
    · obtain rfl : k = l.length := by omega
      have HP : Hid (posB l nm = l.length) := pos_end HA.out
      obtain ⟨A1, A2, hsl1, hsl2, hs1, hs2⟩ : ∃ A1 A2, (∀ W, (Instr.slice 35 (.slice a l.length c) none (some (.int .i64 (l.length : Nat))) none).run Tryz.prog W = .ok (.slice A1 l.length c) W) ∧ (∀ W, (Instr.slice 35 (.slice a l.length c) (some (.int .i64 (l.length : Nat))) none none).run Tryz.prog W = .ok (.slice A2 0 (c - l.length)) W) ∧ SrcBt wr A1 (l.take l.length) ∧ SrcBt wr A2 (l.drop l.length) := by
        have hnil : l.drop l.length = [] := List.drop_eq_nil_of_le (Nat.le_refl _)
        rcases HO.out.2 with ⟨hv, h0⟩ | ⟨g, cap, cur, hv, _, hg, hcc, _, _, ht⟩
        · injection hv with e1 _ e3
          subst e1
          subst e3
          rw [hnil, h0]
          exact ⟨none, none, fun W => by kernel_rfl, fun W => by kernel_rfl, ⟨fun ad e => (by cases e), fun _ => rfl⟩, ⟨fun ad e => (by cases e), fun _ => rfl⟩⟩
        · injection hv with e1 _ e3
          subst e1
          subst e3
          have hgl : g < wr.heap.size := (Array.getElem?_eq_some_iff.1 hg).1
          have hcell : ∀ j u, (l.flatMap BtC)[j]? = some u → wr.cell? ⟨g, j, none⟩ = some u := fun j u hu => by
            rw [← ht, List.getElem?_take] at hu
            simp only [World.cell?, hg]
            split at hu
            · simpa using hu
            · cases hu
          have h1 : (0 : Int) ≤ (l.length : Int) := by omega
          have h4 : (l.length : Int) ≤ (c : Int) := by omega
          refine ⟨some ⟨g, 0, none⟩, if c = l.length then some ⟨g, 0, none⟩ else some ⟨g, l.length * 2, none⟩, fun W => by simp [Instr.slice, go_sem, h1, h4], fun W => by simp [Instr.slice, go_sem, h1], src_head hgl hcell _, fun ad e => ?_, fun e => by split at e <;> cases e⟩
          rw [hnil]
          have hb : ad.block = g := by split at e <;> (injection e with e; subst e; rfl)
          exact ⟨by rw [hb]; exact hgl, fun i u hu => by simp at hu⟩
      have HNO : Hid (¬ l.length < l.length) := Nat.lt_irrefl _
      go_upto_region 7 with fail
      have e1 : (l.take l.length).length = l.length := by rw [List.length_take] <;> omega
      have e2 : (l.drop l.length).length = 0 := by rw [List.length_drop] <;> omega
      obtain ⟨g1, p1, W1, g2, p2, W2, g3, p3, W3, r1, r2, r3, hown, hbel⟩ := raise_rows wr (l.take l.length) (l.drop l.length) (A1) (A2) c (c - l.length) nm dr hs1 hs2 (by rw [e1, e2]; omega)
      rw [e1] at r1 r2 r3 hown
      rw [e2] at r3 hown
      have HOW := hid hown
      have HBX := hid (HXX.out.later hbel)
      have HBO := hid (HXO.out.later hbel)
      have HBR := hid (HRR.out.later hbel)
      have HBB := hid (blw_trans HB.out hbel)
      have HRA : Hid (raiseOf l nm dr = l.take l.length ++ [⟨nm, dr⟩] ++ l.drop l.length) := by show _ = _; rw [raiseOf, HP.out, decide_eq_false HNO.out]; rfl
      have HRL : Hid ((raiseOf l nm dr).length = (l.length + 1 + 0)) := by show _ = _; rw [HRA.out, List.length_append, List.length_append, e1, e2]; rfl
      clear hown hbel hs1 hs2 e1 e2
      have z3 := HBX.out.x3
      have zz := HBX.out.lt
      have ff := HBO.out.frozen
      obtain ⟨W4, hW4⟩ : ∃ W4, W4 = W3.setCell ⟨w.heap.size, 3, none⟩ (.slice (some ⟨g3, 0, none⟩) (l.length + 1 + 0) p3) := ⟨_, rfl⟩
      have HB4 : Hid (Box4 W4 w.heap.size (.int .i64 now) (.slice a0 n0 c0) (.slice a1 n1 c1) (.slice (some ⟨g3, 0, none⟩) (l.length + 1 + 0) p3)) := by
        have e : ∀ o, o ≠ 3 → W4.cell? ⟨w.heap.size, o, none⟩ = W3.cell? ⟨w.heap.size, o, none⟩ := fun o ho => by rw [hW4]; exact sc_ne _ _ _ _ _ _ (Or.inr ho)
        exact ⟨by rw [hW4]; simpa [World.setCell] using HBX.out.lt, (e 0 (by decide)).trans HBX.out.x0, (e 1 (by decide)).trans HBX.out.x1, (e 2 (by decide)).trans HBX.out.x2, by rw [hW4]; exact sc_eq HBO.out 3 (by omega) _⟩
      have hge : ∀ g, (Value.slice (some ⟨g3, 0, none⟩) (l.length + 1 + 0) p3).ownBlock = some g → w.heap.size + 2 ≤ g := fun g hg => by have := (World.ownsRow.lt HOW.out g hg).1; have := HSZ.out; omega
      have HO4 : Hid (W4.ownsRow wr.heap.size 79 2 (.slice (some ⟨g3, 0, none⟩) (l.length + 1 + 0) p3) (l.length + 1 + 0) ((l.take l.length ++ [(⟨nm, dr⟩ : Bt)] ++ l.drop l.length).flatMap BtC)) := by
        show World.ownsRow _ _ _ _ _ _ _
        rw [hW4]
        exact owns_scn HOW.out (fun g hg => by have := hge g hg; omega) _ _
      have HR4 : Hid (OwnBlk W4 (w.heap.size + 1) 37 4) := by show OwnBlk _ _ _ _; rw [hW4]; exact HBR.out.sc_other (by omega) _ _
      have HBB4 : Hid (Below w.heap.size w W4) := by show Below _ _ _; rw [hW4]; exact puts_below 3 (Nat.le_refl _) [_] _ 0 HBB.out
      go_upto_region 8 with (at_builtin; first | refine wpList_append_run rfl (.tmp 43) (.tmp 47) 35 rfl rfl rfl r1 ?_ | refine wpList_append_run rfl (.tmp 48) (.tmp 52) 35 rfl rfl rfl r2 ?_ | refine wpList_append_run rfl (.tmp 53) (.tmp 54) 35 rfl rfl rfl r3 ?_)
      rw [← hW4]
      clear hW4 r1 r2 r3 z3 zz ff HBX HBO HBR HBB HOW yz y0 y1 y2 y3
      obtain ⟨yz, y0, y1, y2, y3⟩ := HB4.out
      have hth := RY.own_there HR4.out
      have hrt : World.rangeAt (W4.setCells (w.heap.size + 1) 0 [.int .i64 now, .slice a0 n0 c0, .slice a1 n1 c1, .slice (some ⟨g3, 0, none⟩) (l.length + 1 + 0) p3]) (w.heap.size + 1) 0 [.int .i64 now, .slice a0 n0 c0, .slice a1 n1 c1, .slice (some ⟨g3, 0, none⟩) (l.length + 1 + 0) p3] := World.rangeAt_setCells_same _ _ _ _ hth
      have hne : ∀ g, (Value.slice (some ⟨g3, 0, none⟩) (l.length + 1 + 0) p3).ownBlock = some g → g ≠ w.heap.size + 1 := fun g hg => by have := hge g hg; omega
      have HF : Hid (World.ownsRow (W4.setCells (w.heap.size + 1) 0 [.int .i64 now, .slice a0 n0 c0, .slice a1 n1 c1, .slice (some ⟨g3, 0, none⟩) (l.length + 1 + 0) p3]) wr.heap.size 79 2 (.slice (some ⟨g3, 0, none⟩) (l.length + 1 + 0) p3) (l.length + 1 + 0) ((l.take l.length ++ [(⟨nm, dr⟩ : Bt)] ++ l.drop l.length).flatMap BtC) ∧ Below w.heap.size w (W4.setCells (w.heap.size + 1) 0 [.int .i64 now, .slice a0 n0 c0, .slice a1 n1 c1, .slice (some ⟨g3, 0, none⟩) (l.length + 1 + 0) p3])) :=
        ⟨owns_scn (owns_scn (owns_scn (owns_scn HO4.out hne _ _) hne _ _) hne _ _) hne _ _, puts_below 0 (by omega) [.int .i64 now, .slice a0 n0 c0, .slice a1 n1 c1, .slice (some ⟨g3, 0, none⟩) (l.length + 1 + 0) p3] _ 0 HBB4.out⟩
      clear hge hne
      go_wp2_with (refine wpList_store_mid rfl 37 _ _ rfl (w.heap.size + 1) 0 #[.int .i64 now, .slice a0 n0 c0, .slice a1 n1 c1, .slice (some ⟨g3, 0, none⟩) (l.length + 1 + 0) p3] rfl rfl hth (by kernel_rfl) (by simp [Value.oneCell']) ?_)
      simp only [Act.put]
      refine bodyPost_ret (v := .agg #[.int .i64 now, .slice a0 n0 c0, .slice a1 n1 c1, .slice (some ⟨g3, 0, none⟩) (l.length + 1 + 0) p3]) (by simp [results, Tryz.results48, asAddr, run_loadVar_mid (P := Tryz.prog) _ _ _ 37 [.int .i64 now, .slice a0 n0 c0, .slice a1 n1 c1, .slice (some ⟨g3, 0, none⟩) (l.length + 1 + 0) p3] _ hrt Tryz.underlying37 rfl (by kernel_rfl)]) rfl ?_
      refine ⟨⟨some ⟨g3, 0, none⟩, p3, by rw [HRL.out], ?_⟩, HF.out.2⟩
      rw [HRL.out, HRA.out, ← HSZ.out]
      exact HF.out.1

end Go.Proofs.YtclagbakddkjcaaGreat
