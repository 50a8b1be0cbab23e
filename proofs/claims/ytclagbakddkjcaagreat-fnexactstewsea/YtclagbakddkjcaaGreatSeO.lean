/-
  The sea: StewSea by the specification.
-/
import Derived.Test.YtclagbakddkjcaaGreatSeM
import Derived.Test.YtclagbakddkjcaaGreatStD
import Derived.Test.YtclagbakddkjcaaGreatSeD
namespace Go.Proofs.YtclagbakddkjcaaGreat
open Go.RowKit Go.Deep

set_option maxRecDepth 8000 in
set_option maxHeartbeats 8000000 in
theorem l17SeaS (K : SBk) (E : Ev) (lo : Nat) (w : World) (hlo : lo ≤ w.heap.size) (p0 p1 p2 : Option Addr) (q0 q1 q2 : Nat) (o0 : w.ownsRow lo 41 13 (.slice p0 K.svcs.length q0) K.svcs.length (K.svcs.flatMap SvC)) (o1 : w.ownsRow lo 81 7 (.slice p1 K.cps.length q1) K.cps.length (K.cps.flatMap CpC)) (o2 : w.ownsRow lo 79 2 (.slice p2 K.bts.length q2) K.bts.length (K.bts.flatMap BtC)) (z0 : ∀ i, i < K.svcs.length → (K.svcs.getD i Sv.none).sized) (z1 : ∀ i, i < K.cps.length → (K.cps.getD i Cp.none).sized) (z2 : ∀ i, i < K.bts.length → (K.bts.getD i Bt.none).sized) (hl : K.svcs.length ≤ 100000 ∧ K.cps.length ≤ 100000 ∧ K.bts.length ≤ 100000) (hn : 0 ≤ K.now ∧ K.now ≤ 1000000) (hz : E.sv.nm.size ≤ maxLen ∧ E.nm.size ≤ maxLen) :
    Calls Tryz.prog 20 #[.agg #[.int .i64 K.now, .slice p0 K.svcs.length q0, .slice p1 K.cps.length q1, .slice p2 K.bts.length q2], .agg #[.int .i64 E.kind, .string E.sv.nm, .int .i64 E.sv.ver, .bool E.sv.gone, .int .i64 E.sv.image, .int .i64 E.sv.want, .int .i64 E.sv.down, .int .i64 E.sv.over, .int .i64 E.sv.next, .int .i64 E.sv.per, .int .i64 E.sv.least, .int .i64 E.sv.most, .int .i64 E.sv.load, .int .i64 E.sv.cool, .string E.nm, .int .i64 E.num, .bool E.flag]] w fun e w' => (∃ s0 s1 s2, e = .returned (.tuple #[.agg #[.int .i64 (seaR K E).now, s0, s1, s2], .int .i64 (seaC K E)]) ∧ BkOwn w' lo (seaR K E) s0 s1 s2) ∧ Below lo w w' ∧ Keep w w' := by
  obtain ⟨wx, hwx⟩ : ∃ wx, wx = w.alloc (.cells #[.int .i64 K.now, .slice p0 K.svcs.length q0, .slice p1 K.cps.length q1, .slice p2 K.bts.length q2] 37) := ⟨_, rfl⟩
  have zx : wx.heap.size = w.heap.size + 1 := by rw [hwx]; exact Array.size_push _
  obtain ⟨wy, hwy⟩ : ∃ wy, wy = wx.alloc (.cells #[.int .i64 E.kind, .string E.sv.nm, .int .i64 E.sv.ver, .bool E.sv.gone, .int .i64 E.sv.image, .int .i64 E.sv.want, .int .i64 E.sv.down, .int .i64 E.sv.over, .int .i64 E.sv.next, .int .i64 E.sv.per, .int .i64 E.sv.least, .int .i64 E.sv.most, .int .i64 E.sv.load, .int .i64 E.sv.cool, .string E.nm, .int .i64 E.num, .bool E.flag] 43) := ⟨_, rfl⟩
  have zy : wy.heap.size = w.heap.size + 2 := by rw [hwy]; exact (Array.size_push _).trans (by rw [zx])
  obtain ⟨wa, hwa⟩ : ∃ wa, wa = wy.alloc (.cells #[.int .i64 0, .slice none 0 0, .slice none 0 0, .slice none 0 0] 37) := ⟨_, rfl⟩
  have b1 : Below w.heap.size w wx := by rw [hwx]; exact blw_alloc (Below.refl _ _) _
  have b2 : Below wx.heap.size wx wy := by rw [hwy]; exact blw_alloc (Below.refl _ _) _
  have b3 : Below wy.heap.size wy wa := by rw [hwa]; exact blw_alloc (Below.refl _ _) _
  have hb := blw_trans (blw_trans b1 b2) b3
  have HX : Hid (XI lo w.heap.size wa K.now K.svcs K.cps K.bts p0 p1 p2 K.svcs.length K.cps.length K.bts.length q0 q1 q2) := by
    have q : wx.heap[w.heap.size]? = some (.cells #[.int .i64 K.now, .slice p0 K.svcs.length q0, .slice p1 K.cps.length q1, .slice p2 K.bts.length q2] 37 (0, 0)) := by rw [hwx]; exact World.alloc_heap_new w _
    exact ⟨(b3.block _ (by omega)).trans ((b2.block _ (by omega)).trans q), owns_on o0 hb, owns_on o1 hb, owns_on o2 hb, rfl, rfl, rfl, z0, z1, z2, by omega, by omega, by omega⟩
  have HEW : Hid (EI lo w wa E) := by
    have q : wy.heap[w.heap.size + 1]? = some (.cells #[.int .i64 E.kind, .string E.sv.nm, .int .i64 E.sv.ver, .bool E.sv.gone, .int .i64 E.sv.image, .int .i64 E.sv.want, .int .i64 E.sv.down, .int .i64 E.sv.over, .int .i64 E.sv.next, .int .i64 E.sv.per, .int .i64 E.sv.least, .int .i64 E.sv.most, .int .i64 E.sv.load, .int .i64 E.sv.cool, .string E.nm, .int .i64 E.num, .bool E.flag] 43 (0, 0)) := by rw [hwy, ← zx]; exact World.alloc_heap_new wx _
    exact ⟨hb.mono hlo, (b3.block _ (by omega)).trans q, by rw [hwa, ← zy]; exact OwnBlk.alloc wy _ _ _ rfl, fun q cs e => (hb.block q (lt_heap e)).trans e⟩
  have HL : Hid (K.svcs.length ≤ 100000 ∧ K.bts.length ≤ 100000) := ⟨hl.1, hl.2.2⟩
  have HZ := hid hz
  obtain ⟨v, hv⟩ : ∃ v, v = K.now + 1 := ⟨_, rfl⟩
  have HV := hid hv
  have hwr : IntKind.i64.wrap (K.now + 1) = v := by rw [hv]; simp [IntKind.wrap, IntKind.bits, IntKind.signed]; omega
  obtain ⟨hn0, hn1⟩ := hn
  clear b1 b2 b3 hb o0 o1 o2 z0 z1 z2 hl hz hv
  obtain ⟨yz, y0, y1, y2, y3⟩ := HX.out.at_
  go_enter Tryz.func20, Tryz.ntmps20
  show Code.wp Tryz.prog sa0 (SeaQ K E lo w) _ _
  unfold SeaQ
  rw [sa0_2]
  simp only [sa1, sa0, Tryz.f20, Option.getD_some, sfst_seq, ssnd_seq]
  go_upto_region 1 with fail
  rw [← hwx, ← hwy, ← hwa]
  clear hwx hwy hwa zx zy
  go_wp2
  show Code.wp Tryz.prog sa2 (SeaQ K E lo w) _ _
  first | rw [hwr] | skip
  by_cases h1 : E.kind = 1
  · exact seaTick K E lo w hlo v HV p0 p1 p2 q0 q1 q2 wa HEW HX HL HZ h1 _ _ _ _ _ _ _ _ _ _ _ _ _ _ _ _ _ _ _ _ _ _ _ _ _ _ _ _ _ _ _ _ _ _ _ _ _ _ _ _ _ _ _ _ _ _ _ _ _ _ _ _ _ _ _ _ _ _ _ _ _ _ _ _ _ _ _ _ _ _ _ _ _ _ _ _ _ _ _ _ _ _ _ _ _ _ _ _ _ _ _ _ _ _ _ _ _ _ _ _ _ _ _ _ _ _ _ _ _ _ _ _ _ _ _ _ _ _ _ _ _ _ _ _ _ _ _ _ _ _ _ _ _ _ _ _ _ _ _ _ _ _ _ _ _ _ _ _ _ _ _ _ _ _ _ _ _ 
  by_cases h2 : E.kind = 2
  · exact seaWish K E lo w hlo v HV p0 p1 p2 q0 q1 q2 wa HEW HX HL HZ h2 _ _ _ _ _ _ _ _ _ _ _ _ _ _ _ _ _ _ _ _ _ _ _ _ _ _ _ _ _ _ _ _ _ _ _ _ _ _ _ _ _ _ _ _ _ _ _ _ _ _ _ _ _ _ _ _ _ _ _ _ _ _ _ _ _ _ _ _ _ _ _ _ _ _ _ _ _ _ _ _ _ _ _ _ _ _ _ _ _ _ _ _ _ _ _ _ _ _ _ _ _ _ _ _ _ _ _ _ _ _ _ _ _ _ _ _ _ _ _ _ _ _ _ _ _ _ _ _ _ _ _ _ _ _ _ _ _ _ _ _ _ _ _ _ _ _ _ _ _ _ _ _ _ _ _ _ _ 
  by_cases h3 : E.kind = 3
  · exact seaFail K E lo w hlo v HV p0 p1 p2 q0 q1 q2 wa HEW HX HL HZ h3 _ _ _ _ _ _ _ _ _ _ _ _ _ _ _ _ _ _ _ _ _ _ _ _ _ _ _ _ _ _ _ _ _ _ _ _ _ _ _ _ _ _ _ _ _ _ _ _ _ _ _ _ _ _ _ _ _ _ _ _ _ _ _ _ _ _ _ _ _ _ _ _ _ _ _ _ _ _ _ _ _ _ _ _ _ _ _ _ _ _ _ _ _ _ _ _ _ _ _ _ _ _ _ _ _ _ _ _ _ _ _ _ _ _ _ _ _ _ _ _ _ _ _ _ _ _ _ _ _ _ _ _ _ _ _ _ _ _ _ _ _ _ _ _ _ _ _ _ _ _ _ _ _ _ _ _ _ 
  by_cases h4 : E.kind = 4
  · exact seaSink K E lo w hlo v HV p0 p1 p2 q0 q1 q2 wa HEW HX HL HZ h4 _ _ _ _ _ _ _ _ _ _ _ _ _ _ _ _ _ _ _ _ _ _ _ _ _ _ _ _ _ _ _ _ _ _ _ _ _ _ _ _ _ _ _ _ _ _ _ _ _ _ _ _ _ _ _ _ _ _ _ _ _ _ _ _ _ _ _ _ _ _ _ _ _ _ _ _ _ _ _ _ _ _ _ _ _ _ _ _ _ _ _ _ _ _ _ _ _ _ _ _ _ _ _ _ _ _ _ _ _ _ _ _ _ _ _ _ _ _ _ _ _ _ _ _ _ _ _ _ _ _ _ _ _ _ _ _ _ _ _ _ _ _ _ _ _ _ _ _ _ _ _ _ _ _ _ _ _ 
  by_cases h5 : E.kind = 5
  · exact seaRaise K E lo w hlo v HV p0 p1 p2 q0 q1 q2 wa HEW HX HL HZ h5 _ _ _ _ _ _ _ _ _ _ _ _ _ _ _ _ _ _ _ _ _ _ _ _ _ _ _ _ _ _ _ _ _ _ _ _ _ _ _ _ _ _ _ _ _ _ _ _ _ _ _ _ _ _ _ _ _ _ _ _ _ _ _ _ _ _ _ _ _ _ _ _ _ _ _ _ _ _ _ _ _ _ _ _ _ _ _ _ _ _ _ _ _ _ _ _ _ _ _ _ _ _ _ _ _ _ _ _ _ _ _ _ _ _ _ _ _ _ _ _ _ _ _ _ _ _ _ _ _ _ _ _ _ _ _ _ _ _ _ _ _ _ _ _ _ _ _ _ _ _ _ _ _ _ _ _ _ 
  by_cases h6 : E.kind = 6
  · exact seaLoad K E lo w hlo v HV p0 p1 p2 q0 q1 q2 wa HEW HX HL HZ h6 _ _ _ _ _ _ _ _ _ _ _ _ _ _ _ _ _ _ _ _ _ _ _ _ _ _ _ _ _ _ _ _ _ _ _ _ _ _ _ _ _ _ _ _ _ _ _ _ _ _ _ _ _ _ _ _ _ _ _ _ _ _ _ _ _ _ _ _ _ _ _ _ _ _ _ _ _ _ _ _ _ _ _ _ _ _ _ _ _ _ _ _ _ _ _ _ _ _ _ _ _ _ _ _ _ _ _ _ _ _ _ _ _ _ _ _ _ _ _ _ _ _ _ _ _ _ _ _ _ _ _ _ _ _ _ _ _ _ _ _ _ _ _ _ _ _ _ _ _ _ _ _ _ _ _ _ _ 
  exact seaElse K E lo w hlo v HV p0 p1 p2 q0 q1 q2 wa HEW HX HL HZ (by simpa using h1) (by simpa using h2) (by simpa using h3) (by simpa using h4) (by simpa using h5) (by simpa using h6) (by show _ = _; unfold seaC; rw [if_neg h1, if_neg h2, if_neg h3, if_neg h4, if_neg h5, if_neg h6]) _ _ _ _ _ _ _ _ _ _ _ _ _ _ _ _ _ _ _ _ _ _ _ _ _ _ _ _ _ _ _ _ _ _ _ _ _ _ _ _ _ _ _ _ _ _ _ _ _ _ _ _ _ _ _ _ _ _ _ _ _ _ _ _ _ _ _ _ _ _ _ _ _ _ _ _ _ _ _ _ _ _ _ _ _ _ _ _ _ _ _ _ _ _ _ _ _ _ _ _ _ _ _ _ _ _ _ _ _ _ _ _ _ _ _ _ _ _ _ _ _ _ _ _ _ _ _ _ _ _ _ _ _ _ _ _ _ _ _ _ _ _ _ _ _ _ _ _ _ _ _ _ _ _ _ _ _ 

end Go.Proofs.YtclagbakddkjcaaGreat

namespace Go.Proofs.YtclagbakddkjcaaGreat
open Go.RowKit Go.Deep

namespace RY
theorem region_TC {P : Program} {id : Nat} {Q : Exit → Act → World → Prop} {a0 : Act} {w : World} {l : List Oper} (V : Nat → Value → Prop) (T : (Nat → Bool) → (Nat → Value) → World → Prop) (hm : P.follows .mixedOrders = true)
    (hasc : asc .any l.toArray = true) (hap : apartB l = true) (hpl : plainB l a0.tmps.size = true) (h0 : ∀ vals, T (fun _ => false) vals w.drew)
    (hop : ∀ (up : Nat → Bool) (vals : Nat → Value) (i : Nat) (o : Oper), l[i]? = some o → up i = false → (∀ (j : Nat) (o' : Oper) (e : _), l[j]? = some o' → e ∈ o'.after → Region.binds .any e = true → up j = true → up e.on = true) →
      ∀ (a : Act) (W : World), (∀ k, noDst l k = true → a.eval (.tmp k) = a0.eval (.tmp k)) →
      (∀ (j : Nat) (o' : Oper) (k : Nat), l[j]? = some o' → o'.dst = some k → (∃ e ∈ o.after, e.on = j ∧ Region.binds .any e = true) → up j = true ∧ a.eval (.tmp k) = vals j ∧ V j (vals j)) → T up vals W →
      (∃ u W', (execOp a.eval o).run P W = .ok (.value u) W' ∧ o.dst.isSome = true ∧ V i u ∧ T (fun j => (j == i) || up j) (fun j => if j = i then u else vals j) W') ∨
      (∃ W', (execOp a.eval o).run P W = .ok .skip W' ∧ o.dst = none ∧ T (fun j => (j == i) || up j) vals W') ∨
      (∃ f args, (execOp a.eval o).run P W = .ok (.enter f args) W ∧ o.dst.isSome = true ∧ Calls P f args W fun e W' => ∃ u, e = .returned u ∧ V i u ∧ T (fun j => (j == i) || up j) (fun j => if j = i then u else vals j) W'))
    (hend : ∀ (up : Nat → Bool) (vals vs : Nat → Value) (W : World), (∀ i, i < l.length → up i = true) → (∀ (i : Nat) (o : Oper) (k : Nat), l[i]? = some o → o.dst = some k → vs k = vals i ∧ V i (vals i)) → T up vals W → Q .normal (putAll l a0 vs) W) :
    (Code.region id l.toArray true).wp P Q a0 w := by
  refine wp_region_any hm ?_
  refine wpAny_inv (fun L a W => RInv l a0 (fun _ _ => True) (fun j u _ => V j u) L a W ∧ T (fun j => L.getD j false) (valOf l a) W) ?_ ?_ _ _ _ _ ?_ (Closed.none _ (rep_none _)) ?_
  · rintro L a W i ⟨h, hT⟩ hc hi
    obtain ⟨hi1, o, ho0, hall⟩ := mem_ready.1 hi
    have ho : l[i]? = some o := by simpa using ho0
    have hg := (plain_spec hpl ho).1
    rcases hop (fun j => L.getD j false) (valOf l a) i o ho (getD_flip hi1) (fun j o' e hj he hb hu => hc j o' e (by simpa using hj) he hb hu) a W (fun k hk => h.keep hk)
      (fun j o' k hj hk ⟨e, he, hej, hb⟩ => by
        have hu : L.getD j false = true := by rw [← hej]; exact hall e he hb
        exact ⟨hu, (valOf_at hj hk).symm, by rw [valOf_at hj hk]; exact h.new j o' k hj hk hu⟩) hT with ⟨u, W', hr, hd, hV, hT'⟩ | ⟨W', hr, hd, hT'⟩ | ⟨f, args, hr, hd, hcl⟩
    · refine wpOp_value ho0 hg hr ⟨h.step hap hpl ho hi1 trivial (fun _ _ x => x) (fun _ => hV), ?_⟩
      obtain ⟨q, hq⟩ := Option.isSome_iff_exists.1 hd
      rw [up_set hi1, hq, valOf_put hap ho hq (by rw [h.sz]; exact (plain_spec hpl ho).2 q hq)]
      exact hT'
    · refine wpOp_skip ho0 hg hr ⟨h.step hap hpl ho hi1 trivial (fun _ _ x => x) (fun hs => by rw [hd] at hs; cases hs), ?_⟩
      rw [up_set hi1, hd, put_none]
      exact hT'
    · refine wpOp_enter ho0 hg hr (hcl.mono ?_)
      rintro e W' ⟨u, rfl, hV, hT'⟩
      refine ⟨u, rfl, h.step hap hpl ho hi1 trivial (fun _ _ x => x) (fun _ => hV), ?_⟩
      obtain ⟨q, hq⟩ := Option.isSome_iff_exists.1 hd
      rw [up_set hi1, hq, valOf_put hap ho hq (by rw [h.sz]; exact (plain_spec hpl ho).2 q hq)]
      exact hT'
  · rintro L a W ⟨h, hT⟩ hr
    have hall : ∀ i, i < l.length → L.getD i false = true := fun i hi => all_up hr hasc (by simpa using h.len) i (by simpa using hi)
    have lt : ∀ {i : Nat} {o : Oper}, l[i]? = some o → i < l.length := fun hi => (List.getElem?_eq_some_iff.1 hi).1
    have e : a = putAll l a0 (fun k => a.eval (.tmp k)) := by
      have hs : ∀ o ∈ l, ∀ q, o.dst = some q → q < a0.tmps.size := fun o ho q hq => by
        obtain ⟨i, hi⟩ := List.getElem?_of_mem ho
        exact (plain_spec hpl hi).2 q hq
      refine act_ext (by rw [putAll_defers]; exact h.df) (by rw [putAll_size]; exact h.sz) fun k => ?_
      rw [putAll_eval l a0 _ k hs]
      by_cases hk : ∃ o ∈ l, o.dst = some k
      · rw [if_pos hk]
      · rw [if_neg hk]
        refine h.old k fun i o hi hd => absurd ⟨o, List.mem_of_getElem? hi, hd⟩ hk
    have := hend (fun j => L.getD j false) (valOf l a) (fun k => a.eval (.tmp k)) W hall (fun i o k hi hd => ⟨(valOf_at hi hd).symm, by rw [valOf_at hi hd]; exact h.new i o k hi hd (hall i (lt hi))⟩) hT
    rw [← e] at this
    exact this
  · refine ⟨⟨by simp, trivial, rfl, rfl, fun _ _ => rfl, fun i o k hi _ hl => ?_⟩, ?_⟩
    · rw [rep_none] at hl; cases hl
    · have : (fun j => (Array.replicate l.toArray.size false).getD j false) = fun _ => false := by funext j; exact rep_none _ _
      rw [this]
      exact h0 _
  · unfold left
    exact Nat.le_trans List.countP_le_length (by simp)
end RY

end Go.Proofs.YtclagbakddkjcaaGreat

namespace Go.Proofs.YtclagbakddkjcaaGreat
open Go.RowKit Go.Deep

/-- The code of an event. -/
def stewSeaC (K : SBk) (E : Ev) : Int :=
  if sbOk K then (if 1000000 ≤ K.now then (if inB E.kind 1 6 then 7 else 4) else if seaC K E = 0 then (if sbOk (seaK K E) then 0 else 2) else seaC K E) else 1
/-- The book behind it. -/
def stewSeaK (K : SBk) (E : Ev) : SBk := if sbOk K then (if stewSeaC K E = 0 then seaK K E else K) else noK
theorem BkOwn.puts {lo p m : Nat} {R : SBk} {s0 s1 s2 : Value} (o : Nat) : ∀ (vs : List Value) (W : World) (i : Nat), BkOwn W lo R s0 s1 s2 → OwnBlk W p 37 m → BkOwn (puts W p o i vs) lo R s0 s1 s2
  | [], _, _, h, _ => h
  | x :: vs, W, i, h, ho => by
    rw [Proofs.YtclagbakddkjcaaGreat.puts]
    obtain ⟨cs, q1, q2⟩ := ho
    exact BkOwn.puts o vs _ (i + 1) (h.sc q1 _ x) (OwnBlk.setCell ⟨cs, q1, q2⟩ _ x)
theorem bk_at {W : World} {px : Nat} {a b c d : Value} {e : TypeId} (h : W.heap[px]? = some (.cells #[a, b, c, d] e (0, 0))) : Box4 W px a b c d := by
  have f : ∀ j, W.cell? ⟨px, j, none⟩ = (#[a, b, c, d] : Array Value)[j]? := fun j => by simp [World.cell?, h]
  exact ⟨lt_heap h, f 0, f 1, f 2, f 3⟩
noncomputable def ss0 : Code := (Tryz.f6.body).getD .skip
noncomputable def ss3 : Code := ssnd (ssnd (ssnd ss0))
noncomputable def ss4 : Code := ssnd ss3
noncomputable def r7 : Code := sfst ss3
noncomputable def ops7 : List Oper := rops r7
theorem ss0_3 : ss0 = .seq (sfst ss0) (.seq (sfst (ssnd ss0)) (.seq (sfst (ssnd (ssnd ss0))) ss3)) := by kernel_rfl
theorem ss3_4 : ss3 = .seq r7 ss4 := by kernel_rfl
theorem ss4_r : ss4 = .seq (sfst ss4) (.seq (sfst (ssnd ss4)) (ssnd (ssnd ss4))) := by kernel_rfl
/-- What is asked of the end. -/
def StSQ (K : SBk) (E : Ev) (w : World) : Exit → Act → World → Prop := bodyPost Tryz.prog Tryz.f6 fun e w' =>
  (∃ s0 s1 s2, e = .returned (.tuple #[.agg #[.int .i64 (stewSeaK K E).now, s0, s1, s2], .int .i64 (stewSeaC K E)]) ∧ BkOwn w' w.heap.size (stewSeaK K E) s0 s1 s2) ∧ Below w.heap.size w w'
theorem small_of {K : SBk} (h : sbOk K = true) : K.small := by
  obtain ⟨h0, h1, h2⟩ := small_ok h
  exact ⟨by omega, by omega, by omega⟩

set_option maxRecDepth 8000 in
set_option maxHeartbeats 8000000 in
theorem ssTail (K : SBk) (E : Ev) (a0 a1 a2 : Option Addr) (c0 c1 c2 : Nat) (w : World) (HH : Hid (SBkV w a0 a1 a2 K)) (HK : Hid (sbOk K = true)) (HN : Hid (K.now < 1000000)) (W : World) (HA : Hid (EI w.heap.size w W E)) (HBX : Hid (W.heap[w.heap.size]? = some (.cells #[.int .i64 K.now, .slice a0 K.svcs.length c0, .slice a1 K.cps.length c1, .slice a2 K.bts.length c2] 37 (0, 0)))) (q : Nat) (c : Int) (HC : Hid (c = seaC K E)) (s0 s1 s2 : Value) (HQX : Hid (W.heap[q]? = some (.cells #[.int .i64 (seaR K E).now, s0, s1, s2] 37 (0, 0)))) (HO : Hid (BkOwn W w.heap.size (seaR K E) s0 s1 s2)) (u0 u1 u5 u8 u9 u10 u11 u12 u13 u14 u15 u16 u17 u18 u19 u20 u21 u22 u23 u24 u25 u26 u27 u28 u29 u30 u31 u32 u33 u34 u35 u36 u37 u38 u39 u40 u41 u42 u43 : Value) :
    Code.wp Tryz.prog ss4 (StSQ K E w) { tmps := #[u0, u1, .pointer (some ⟨w.heap.size, 0, none⟩), .pointer (some ⟨w.heap.size + 1, 0, none⟩), .pointer (some ⟨w.heap.size + 1 + 1, 0, none⟩), u5, .pointer (some ⟨q, 0, none⟩), .int .i64 c, u8, u9, u10, u11, u12, u13, u14, u15, u16, u17, u18, u19, u20, u21, u22, u23, u24, u25, u26, u27, u28, u29, u30, u31, u32, u33, u34, u35, u36, u37, u38, u39, u40, u41, u42, u43], defers := [] } W := by
  unfold StSQ
  rw [ss4_r]
  simp only [ss4, ss3, ss0, Tryz.f6, Option.getD_some, sfst_seq, ssnd_seq]
  have HSM := hid (small_of HK.out)
  by_cases hc : seaC K E = 0
  · have hR : seaR K E = seaK K E := by unfold seaR; rw [if_pos hc]
    rw [hR] at HQX HO
    have hc0 : c = 0 := HC.out.trans hc
    subst hc0
    obtain ⟨R, hRR⟩ : ∃ R, R = seaK K E := ⟨_, rfl⟩
    have HRR := hid hRR
    rw [← hRR] at HQX HO
    clear hR hRR
    obtain ⟨b0, b1, b2, d0, d1, d2, e0, e1, e2, hv⟩ := HO.out.v
    subst e0 e1 e2
    have HV := hid hv
    clear hv
    obtain ⟨yz, y0, y1, y2, y3⟩ := bk_at HQX.out
    go_wp2_with fail
    refine (stewValidS R b0 b1 b2 d0 d1 d2 W HV.out).mono ?_
    rintro e W1 ⟨rfl, hb⟩
    have HA1 : Hid (EI w.heap.size w W1 E) := HA.out.later (Nat.le_refl _) hb
    have HBX1 : Hid (W1.heap[w.heap.size]? = some (.cells #[.int .i64 K.now, .slice a0 K.svcs.length c0, .slice a1 K.cps.length c1, .slice a2 K.bts.length c2] 37 (0, 0))) := (hb.block _ (lt_heap HBX.out)).trans HBX.out
    have HQX1 : Hid (W1.heap[q]? = some (.cells #[.int .i64 R.now, .slice b0 R.svcs.length d0, .slice b1 R.cps.length d1, .slice b2 R.bts.length d2] 37 (0, 0))) := (hb.block _ (lt_heap HQX.out)).trans HQX.out
    have HV1 := hid (HV.out.later hb)
    clear yz y0 y1 y2 y3 hb HA HBX HQX HV HO
    cases hok : sbOk R
    · have HQ : Hid (stewSeaK K E = K ∧ stewSeaC K E = 2) := by
        have e : stewSeaC K E = 2 := by unfold stewSeaC; rw [HK.out, if_pos rfl, if_neg (show ¬ 1000000 ≤ K.now from by have := HN.out; omega), if_pos hc, ← HRR.out, hok]; rfl
        exact ⟨by unfold stewSeaK; rw [HK.out, e]; rfl, e⟩
      have HVK : Hid (SBkV W1 a0 a1 a2 K) := HH.out.later HA1.out.bel
      obtain ⟨yz, y0, y1, y2, y3⟩ := bk_at HBX1.out
      clear hok hc HRR
      go_wp2_with fail
      refine (l12BookS K a0 a1 a2 c0 c1 c2 W1 HVK.out HSM.out).mono ?_
      rintro e w4 ⟨⟨t0, t1, t2, rfl, o0, o1, o2⟩, hb4⟩
      have HA4 : Hid (EI w.heap.size w w4 E) := HA1.out.later (Nat.le_refl _) hb4
      have hzz := HVK.out.z
      have HO : Hid (BkOwn w4 (W1.heap.size + 2) K t0 t1 t2) := ⟨o0, o1, o2, hzz.1, hzz.2.1, hzz.2.2, HSM.out⟩
      obtain ⟨g0, f0, rfl⟩ := owns_is o0
      obtain ⟨g1, f1, rfl⟩ := owns_is o1
      obtain ⟨g2, f2, rfl⟩ := owns_is o2
      have HLT : Hid (w.heap.size ≤ W1.heap.size + 2) := by show _ ≤ _; have := HA1.out.bel.size; omega
      clear hb4 hzz o0 o1 o2 yz y0 y1 y2 y3
      have hfz := HA4.out.own.frozen
      have hz := HA4.out.own.lt
      obtain ⟨r0, k0⟩ := HA4.out.own.cell 0 (by omega)
      obtain ⟨r1, k1⟩ := HA4.out.own.cell 1 (by omega)
      obtain ⟨r2, k2⟩ := HA4.out.own.cell 2 (by omega)
      obtain ⟨r3, k3⟩ := HA4.out.own.cell 3 (by omega)
      go_wp2
      have p := fun i hi => puts_at 0 [.int .i64 K.now, .slice g0 K.svcs.length f0, .slice g1 K.cps.length f1, .slice g2 K.bts.length f2] w4 0 HA4.out.own (by simp) i hi
      have t0 := p 0 (by simp)
      have t1 := p 1 (by simp)
      have t2 := p 2 (by simp)
      have t3 := p 3 (by simp)
      simp only [puts, Nat.add_zero, Nat.zero_add, Nat.reduceAdd, List.getElem?_cons_zero, List.getElem?_cons_succ] at t0 t1 t2 t3
      have hbl := puts_below (a := w) 0 (B := w.heap.size + 2) (by omega) [.int .i64 K.now, .slice g0 K.svcs.length f0, .slice g1 K.cps.length f1, .slice g2 K.bts.length f2] w4 0 HA4.out.bel
      refine bodyPost_ret (v := .tuple #[.agg #[.int .i64 K.now, .slice g0 K.svcs.length f0, .slice g1 K.cps.length f1, .slice g2 K.bts.length f2], .int .i64 2]) (by simp [results, go_sem, t0, t1, t2, t3]) rfl ⟨?_, hbl⟩
      rw [HQ.out.1, HQ.out.2]
      exact ⟨_, _, _, rfl, (BkOwn.puts 0 [.int .i64 K.now, .slice g0 K.svcs.length f0, .slice g1 K.cps.length f1, .slice g2 K.bts.length f2] w4 0 HO.out HA4.out.own).lo HLT.out⟩

    · have HQ : Hid (stewSeaK K E = R ∧ stewSeaC K E = 0) := by
        have e : stewSeaC K E = 0 := by unfold stewSeaC; rw [HK.out, if_pos rfl, if_neg (show ¬ 1000000 ≤ K.now from by have := HN.out; omega), if_pos hc, ← HRR.out, hok]; rfl
        exact ⟨by unfold stewSeaK; rw [HK.out, e, HRR.out]; rfl, e⟩
      have HSR := hid (small_of hok)
      obtain ⟨yz, y0, y1, y2, y3⟩ := bk_at HQX1.out
      clear hok hc HRR
      go_wp2_with fail
      refine (l12BookS R b0 b1 b2 d0 d1 d2 W1 HV1.out HSR.out).mono ?_
      rintro e w4 ⟨⟨t0, t1, t2, rfl, o0, o1, o2⟩, hb4⟩
      have HA4 : Hid (EI w.heap.size w w4 E) := HA1.out.later (Nat.le_refl _) hb4
      have hzz := HV1.out.z
      have HO : Hid (BkOwn w4 (W1.heap.size + 2) R t0 t1 t2) := ⟨o0, o1, o2, hzz.1, hzz.2.1, hzz.2.2, HSR.out⟩
      obtain ⟨g0, f0, rfl⟩ := owns_is o0
      obtain ⟨g1, f1, rfl⟩ := owns_is o1
      obtain ⟨g2, f2, rfl⟩ := owns_is o2
      have HLT : Hid (w.heap.size ≤ W1.heap.size + 2) := by show _ ≤ _; have := HA1.out.bel.size; omega
      clear hb4 hzz o0 o1 o2 yz y0 y1 y2 y3
      have hfz := HA4.out.own.frozen
      have hz := HA4.out.own.lt
      obtain ⟨r0, k0⟩ := HA4.out.own.cell 0 (by omega)
      obtain ⟨r1, k1⟩ := HA4.out.own.cell 1 (by omega)
      obtain ⟨r2, k2⟩ := HA4.out.own.cell 2 (by omega)
      obtain ⟨r3, k3⟩ := HA4.out.own.cell 3 (by omega)
      go_wp2
      have p := fun i hi => puts_at 0 [.int .i64 R.now, .slice g0 R.svcs.length f0, .slice g1 R.cps.length f1, .slice g2 R.bts.length f2] w4 0 HA4.out.own (by simp) i hi
      have t0 := p 0 (by simp)
      have t1 := p 1 (by simp)
      have t2 := p 2 (by simp)
      have t3 := p 3 (by simp)
      simp only [puts, Nat.add_zero, Nat.zero_add, Nat.reduceAdd, List.getElem?_cons_zero, List.getElem?_cons_succ] at t0 t1 t2 t3
      have hbl := puts_below (a := w) 0 (B := w.heap.size + 2) (by omega) [.int .i64 R.now, .slice g0 R.svcs.length f0, .slice g1 R.cps.length f1, .slice g2 R.bts.length f2] w4 0 HA4.out.bel
      refine bodyPost_ret (v := .tuple #[.agg #[.int .i64 R.now, .slice g0 R.svcs.length f0, .slice g1 R.cps.length f1, .slice g2 R.bts.length f2], .int .i64 0]) (by simp [results, go_sem, t0, t1, t2, t3]) rfl ⟨?_, hbl⟩
      rw [HQ.out.1, HQ.out.2]
      exact ⟨_, _, _, rfl, (BkOwn.puts 0 [.int .i64 R.now, .slice g0 R.svcs.length f0, .slice g1 R.cps.length f1, .slice g2 R.bts.length f2] w4 0 HO.out HA4.out.own).lo HLT.out⟩

  · have HQ : Hid (stewSeaK K E = K ∧ stewSeaC K E = c) := by
      have e : stewSeaC K E = c := by unfold stewSeaC; rw [HK.out, if_pos rfl, if_neg (show ¬ 1000000 ≤ K.now from by have := HN.out; omega), if_neg hc, HC.out]
      exact ⟨by unfold stewSeaK; rw [HK.out, e, if_pos rfl, if_neg (by rw [HC.out]; exact hc)], e⟩
    have n0 : (c == 0) = false := by rw [HC.out]; simpa using hc
    have n1 : (c != 0) = true := by rw [HC.out]; simpa using hc
    have HVK : Hid (SBkV W a0 a1 a2 K) := HH.out.later HA.out.bel
    obtain ⟨yz, y0, y1, y2, y3⟩ := bk_at HBX.out
    clear hc HC HQX HO
    go_wp2_with fail
    refine (l12BookS K a0 a1 a2 c0 c1 c2 W HVK.out HSM.out).mono ?_
    rintro e w4 ⟨⟨t0, t1, t2, rfl, o0, o1, o2⟩, hb4⟩
    have HA4 : Hid (EI w.heap.size w w4 E) := HA.out.later (Nat.le_refl _) hb4
    have hzz := HVK.out.z
    have HO : Hid (BkOwn w4 (W.heap.size + 2) K t0 t1 t2) := ⟨o0, o1, o2, hzz.1, hzz.2.1, hzz.2.2, HSM.out⟩
    obtain ⟨g0, f0, rfl⟩ := owns_is o0
    obtain ⟨g1, f1, rfl⟩ := owns_is o1
    obtain ⟨g2, f2, rfl⟩ := owns_is o2
    have HLT : Hid (w.heap.size ≤ W.heap.size + 2) := by show _ ≤ _; have := HA.out.bel.size; omega
    clear hb4 hzz o0 o1 o2 yz y0 y1 y2 y3
    have hfz := HA4.out.own.frozen
    have hz := HA4.out.own.lt
    obtain ⟨r0, k0⟩ := HA4.out.own.cell 0 (by omega)
    obtain ⟨r1, k1⟩ := HA4.out.own.cell 1 (by omega)
    obtain ⟨r2, k2⟩ := HA4.out.own.cell 2 (by omega)
    obtain ⟨r3, k3⟩ := HA4.out.own.cell 3 (by omega)
    go_wp2
    have p := fun i hi => puts_at 0 [.int .i64 K.now, .slice g0 K.svcs.length f0, .slice g1 K.cps.length f1, .slice g2 K.bts.length f2] w4 0 HA4.out.own (by simp) i hi
    have t0 := p 0 (by simp)
    have t1 := p 1 (by simp)
    have t2 := p 2 (by simp)
    have t3 := p 3 (by simp)
    simp only [puts, Nat.add_zero, Nat.zero_add, Nat.reduceAdd, List.getElem?_cons_zero, List.getElem?_cons_succ] at t0 t1 t2 t3
    have hbl := puts_below (a := w) 0 (B := w.heap.size + 2) (by omega) [.int .i64 K.now, .slice g0 K.svcs.length f0, .slice g1 K.cps.length f1, .slice g2 K.bts.length f2] w4 0 HA4.out.bel
    refine bodyPost_ret (v := .tuple #[.agg #[.int .i64 K.now, .slice g0 K.svcs.length f0, .slice g1 K.cps.length f1, .slice g2 K.bts.length f2], .int .i64 c]) (by simp [results, go_sem, t0, t1, t2, t3]) rfl ⟨?_, hbl⟩
    rw [HQ.out.1, HQ.out.2]
    exact ⟨_, _, _, rfl, (BkOwn.puts 0 [.int .i64 K.now, .slice g0 K.svcs.length f0, .slice g1 K.cps.length f1, .slice g2 K.bts.length f2] w4 0 HO.out HA4.out.own).lo HLT.out⟩


end Go.Proofs.YtclagbakddkjcaaGreat
