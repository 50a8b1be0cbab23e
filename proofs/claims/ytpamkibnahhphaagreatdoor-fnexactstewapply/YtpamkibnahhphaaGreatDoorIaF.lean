/-
  Stewards: an act that is being done: creating copies, by the program.
-/
import Derived.Test.YtpamkibnahhphaaGreatDoorRegT
import Derived.Test.YtpamkibnahhphaaGreatDoorIaM
namespace Go.Proofs.YtpamkibnahhphaaGreatDoor
open Go.RowKit Go.Deep

namespace RY
theorem region_TO {P : Program} {id : Nat} {Q : Exit → Act → World → Prop} {a0 : Act} {w : World} {l : List Oper} (V : Nat → Value → Prop) (T : (Nat → Bool) → (Nat → Value) → World → Prop) (hm : P.follows .mixedOrders = true)
    (hasc : asc .any l.toArray = true) (hap : apartB l = true) (hpl : plainB l a0.tmps.size = true) (h0 : ∀ vals, T (fun _ => false) vals w.drew)
    (hop : ∀ (up : Nat → Bool) (vals : Nat → Value) (i : Nat) (o : Oper), l[i]? = some o → up i = false → (∀ (j : Nat) (o' : Oper) (e : _), l[j]? = some o' → e ∈ o'.after → Region.binds .any e = true → up j = true → up e.on = true) →
      ∀ (a : Act) (W : World), (∀ k, (∀ (j : Nat) (o' : Oper), l[j]? = some o' → o'.dst = some k → up j = false) → a.eval (.tmp k) = a0.eval (.tmp k)) →
      (∀ (j : Nat) (o' : Oper) (k : Nat), l[j]? = some o' → o'.dst = some k → (∃ e ∈ o.after, e.on = j ∧ Region.binds .any e = true) → up j = true ∧ a.eval (.tmp k) = vals j ∧ V j (vals j)) → T up vals W →
      (∃ u W', (execOp a.eval o).run P W = .ok (.value u) W' ∧ o.dst.isSome = true ∧ V i u ∧ T (fun j => (j == i) || up j) (fun j => if j = i then u else vals j) W') ∨
      (∃ W', (execOp a.eval o).run P W = .ok .skip W' ∧ o.dst = none ∧ T (fun j => (j == i) || up j) vals W') ∨
      (∃ f args, (execOp a.eval o).run P W = .ok (.enter f args) W ∧ o.dst.isSome = true ∧ Calls P f args W fun e W' => ∃ u, e = .returned u ∧ V i u ∧ T (fun j => (j == i) || up j) (fun j => if j = i then u else vals j) W'))
    (hend : ∀ (up : Nat → Bool) (vals vs : Nat → Value) (W : World), (∀ i, i < l.length → up i = true) → (∀ (i : Nat) (o : Oper) (k : Nat), l[i]? = some o → o.dst = some k → vs k = vals i ∧ V i (vals i)) → T up vals W → Q .normal (putAll l a0 vs) W) :
    (Code.region id l.toArray true).wp P Q a0 w := by
  refine wp_region_any hm ?_
  refine wpAny_inv (fun L a W => RInv l a0 (fun _ _ => True) (fun j u _ => V j u) L a W ∧ T (fun j => L.getD j false) (valOf l a) W) ?_ ?_ _ _ _ _ ?_ (Closed.none _ (rep_none _)) ?_
  · rintro L a W i ⟨h, hT⟩ hc hi
    obtain ⟨hi1, o, ho0, hall⟩ := mem_ready.1 hi
    have ho : l[i]? = some o := by simpa using ho0
    have hg := (plain_spec hpl ho).1
    rcases hop (fun j => L.getD j false) (valOf l a) i o ho (getD_flip hi1) (fun j o' e hj he hb hu => hc j o' e (by simpa using hj) he hb hu) a W (fun k hk => h.old k hk)
      (fun j o' k hj hk ⟨e, he, hej, hb⟩ => by
        have hu : L.getD j false = true := by rw [← hej]; exact hall e he hb
        exact ⟨hu, (valOf_at hj hk).symm, by rw [valOf_at hj hk]; exact h.new j o' k hj hk hu⟩) hT with ⟨u, W', hr, hd, hV, hT'⟩ | ⟨W', hr, hd, hT'⟩ | ⟨f, args, hr, hd, hcl⟩
    · refine wpOp_value ho0 hg hr ⟨h.step hap hpl ho hi1 trivial (fun _ _ x => x) (fun _ => hV), ?_⟩
      obtain ⟨q, hq⟩ := Option.isSome_iff_exists.1 hd
      rw [up_set hi1, hq, valOf_put hap ho hq (by rw [h.sz]; exact (plain_spec hpl ho).2 q hq)]
      exact hT'
    · refine wpOp_skip ho0 hg hr ⟨h.step hap hpl ho hi1 trivial (fun _ _ x => x) (fun hs => by rw [hd] at hs; cases hs), ?_⟩
      rw [up_set hi1, hd, put_none]
      exact hT'
    · refine wpOp_enter ho0 hg hr (hcl.mono ?_)
      rintro e W' ⟨u, rfl, hV, hT'⟩
      refine ⟨u, rfl, h.step hap hpl ho hi1 trivial (fun _ _ x => x) (fun _ => hV), ?_⟩
      obtain ⟨q, hq⟩ := Option.isSome_iff_exists.1 hd
      rw [up_set hi1, hq, valOf_put hap ho hq (by rw [h.sz]; exact (plain_spec hpl ho).2 q hq)]
      exact hT'
  · rintro L a W ⟨h, hT⟩ hr
    have hall : ∀ i, i < l.length → L.getD i false = true := fun i hi => all_up hr hasc (by simpa using h.len) i (by simpa using hi)
    have lt : ∀ {i : Nat} {o : Oper}, l[i]? = some o → i < l.length := fun hi => (List.getElem?_eq_some_iff.1 hi).1
    have e : a = putAll l a0 (fun k => a.eval (.tmp k)) := by
      have hs : ∀ o ∈ l, ∀ q, o.dst = some q → q < a0.tmps.size := fun o ho q hq => by
        obtain ⟨i, hi⟩ := List.getElem?_of_mem ho
        exact (plain_spec hpl hi).2 q hq
      refine act_ext (by rw [putAll_defers]; exact h.df) (by rw [putAll_size]; exact h.sz) fun k => ?_
      rw [putAll_eval l a0 _ k hs]
      by_cases hk : ∃ o ∈ l, o.dst = some k
      · rw [if_pos hk]
      · rw [if_neg hk]
        refine h.old k fun i o hi hd => absurd ⟨o, List.mem_of_getElem? hi, hd⟩ hk
    have := hend (fun j => L.getD j false) (valOf l a) (fun k => a.eval (.tmp k)) W hall (fun i o k hi hd => ⟨(valOf_at hi hd).symm, by rw [valOf_at hi hd]; exact h.new i o k hi hd (hall i (lt hi))⟩) hT
    rw [← e] at this
    exact this
  · refine ⟨⟨by simp, trivial, rfl, rfl, fun _ _ => rfl, fun i o k hi _ hl => ?_⟩, ?_⟩
    · rw [rep_none] at hl; cases hl
    · have : (fun j => (Array.replicate l.toArray.size false).getD j false) = fun _ => false := by funext j; exact rep_none _ _
      rw [this]
      exact h0 _
  · unfold left
    exact Nat.le_trans List.countP_le_length (by simp)
end RY

end Go.Proofs.YtpamkibnahhphaaGreatDoor

namespace Go.Proofs.YtpamkibnahhphaaGreatDoor
open Go.RowKit Go.Deep

set_option maxHeartbeats 4000000 in
theorem createNo {lo p : Nat} {W : World} {X : Ac} {ae : Value} {now : Int} {sv : List Sv} {cp : List Cp} {bt : List Bt} {k : Nat} {es : List Nat} {p0 p1 p2 pe : Option Addr} {n0 n1 n2 ne q0 q1 q2 qe : Nat} (h : Wk lo p W X ae now sv cp bt k es p0 p1 p2 pe n0 n1 n2 ne q0 q1 q2 qe) (hs : X.create = 0) :
    Calls Tryz.prog 67 #[.pointer (some ⟨p, 0, none⟩)] W fun e W' => e = .returned (.tuple #[]) ∧ W' = W := by
  have c2 : W.cell? ⟨p, 2, none⟩ = some (.int .i64 X.create) := h.cell 2
  have hz := h.lt
  rw [hs] at c2
  clear h
  go_enter Tryz.func67, Tryz.ntmps67
  go_wp2
  first | go_end0 | refine bodyPost_ret (results_none rfl _ _ _) rfl ?_
  exact ⟨rfl, rfl⟩

/-- A new copy. -/
def mkCp (s : Sv) (now : Int) (j : Nat) : Cp := ⟨s.nm, s.next + j, now, s.image, 1, false, ByteArray.empty⟩
def mkCps (s : Sv) (now : Int) (q : Nat) : List Cp := (List.range q).map (mkCp s now)
theorem mkCps_succ (s : Sv) (now : Int) (q : Nat) : mkCps s now (q + 1) = mkCps s now q ++ [mkCp s now q] := by
  unfold mkCps; rw [List.range_succ, List.map_append]; rfl
theorem mkCps_len (s : Sv) (now : Int) (q : Nat) : (mkCps s now q).length = q := by simp [mkCps]
theorem mkCps_sized {s : Sv} (h : s.sized) (now : Int) (q : Nat) : ∀ x ∈ mkCps s now q, x.sized := by
  intro x hx
  obtain ⟨j, _, rfl⟩ := List.mem_map.1 hx
  exact ⟨h, by show ByteArray.empty.size ≤ _; unfold maxLen; decide⟩
def createOff (cp : List Cp) (s : Sv) (m : Nat) : Bool := s.gone || decide (s.want + s.over < (cnL cp s.image (rowCp cp s.nm)).live + m)
def upNext (s : Sv) (q : Nat) : Sv := { s with next := s.next + q }
theorem field_live (a b c d e : Value) (W : World) : (Instr.field 99 (.agg #[a, b, c, d, e]) 0).run Tryz.prog W = .ok a W := by kernel_rfl

def VCr (p g k : Nat) (vq : Value) (nm : ByteArray) (nx now im : Int) : Nat → Value → Prop
  | 0, u => u = vq
  | 1, u => u = .pointer (some ⟨g, k * 13, none⟩)
  | 2, u => u = .pointer (some ⟨g, k * 13, none⟩)
  | 3, u => u = .pointer (some ⟨g, k * 13, none⟩)
  | 4, u => u = .string nm
  | 5, u => u = .pointer (some ⟨g, k * 13, none⟩)
  | 6, u => u = .pointer (some ⟨g, k * 13, none⟩)
  | 7, u => u = .pointer (some ⟨g, k * 13 + 7, none⟩)
  | 8, u => u = .int .i64 nx
  | 9, u => u = .pointer (some ⟨p, 0, none⟩)
  | 10, u => u = .pointer (some ⟨p, 0, none⟩)
  | 11, u => u = .pointer (some ⟨p, 8, none⟩)
  | 12, u => u = .pointer (some ⟨p, 8, none⟩)
  | 13, u => u = .int .i64 now
  | 14, u => u = .pointer (some ⟨g, k * 13, none⟩)
  | 15, u => u = .pointer (some ⟨g, k * 13, none⟩)
  | 16, u => u = .pointer (some ⟨g, k * 13 + 3, none⟩)
  | 17, u => u = .int .i64 im
  | 18, u => u = .agg #[.string nm, .int .i64 nx, .int .i64 now, .int .i64 im, .int .i64 1, .bool false, .string ByteArray.empty]
  | _, _ => True
structure TCr (R : World) (lc q : Nat) (xs cs : List Value) (up : Nat → Bool) (vals : Nat → Value) (W : World) : Prop where
  a : up 20 = false → Below R.heap.size R W
  b : up 19 = true → up 20 = false → ∃ b, vals 19 = .slice (some ⟨b, 0, none⟩) 1 1 ∧ ∀ j u, cs[j]? = some u → W.cell? ⟨b, j, none⟩ = some u
  d : up 20 = true → W.ownsRow lc 90 7 (vals 20) (q + 1) (xs ++ cs) ∧ Below lc R W
  e : up 21 = true → vals 21 = vals 20
theorem TCr.pure {R : World} {lc q : Nat} {xs cs : List Value} {up : Nat → Bool} {vals : Nat → Value} {W : World} (h : TCr R lc q xs cs up vals W) (i : Nat) (u : Value) (i0 : i ≠ 19) (i1 : i ≠ 20) (i2 : i ≠ 21) :
    TCr R lc q xs cs (fun j => (j == i) || up j) (fun j => if j = i then u else vals j) W := by
  have e : ∀ q, i ≠ q → ((q == i) || up q) = up q := fun q hq => by rw [show (q == i) = false from by simpa using fun e => hq e.symm]; rfl
  have f : ∀ q, i ≠ q → (if q = i then u else vals q) = vals q := fun q hq => if_neg (fun e => hq e.symm)
  constructor
  · show ((20 == i) || up 20) = false → _; rw [e 20 i1]; exact h.a
  · show ((19 == i) || up 19) = true → ((20 == i) || up 20) = false → ∃ b, (if 19 = i then u else vals 19) = _ ∧ _; rw [e 19 i0, e 20 i1, f 19 i0]; exact h.b
  · show ((20 == i) || up 20) = true → World.ownsRow _ _ _ _ (if 20 = i then u else vals 20) _ _ ∧ _; rw [e 20 i1, f 20 i1]; exact h.d
  · show ((21 == i) || up 21) = true → (if 21 = i then u else vals 21) = (if 20 = i then u else vals 20); rw [e 21 i2, f 21 i2, f 20 i1]; exact h.e

set_option maxRecDepth 8000 in
set_option maxHeartbeats 40000000 in
theorem createYes {lo p : Nat} {W : World} {X : Ac} {ae : Value} {now : Int} {sv : List Sv} {cp : List Cp} {bt : List Bt} {k : Nat} {es : List Nat} {p1 p2 pe : Option Addr} {g : Nat} {n0 n1 n2 ne q0 q1 q2 qe : Nat} (h : Wk lo p W X ae now sv cp bt k es (some ⟨g, 0, none⟩) p1 p2 pe n0 n1 n2 ne q0 q1 q2 qe) (m : Nat) (hs : X.create = (m : Int)) (hm : 0 < m) (hm2 : m ≤ 20) (hk : k < n0) (hasc : ascCp cp = true) (hlen : n1 ≤ 200) (s : Sv) (hsv : s = sv.getD k Sv.none) (hw : 0 ≤ s.want ∧ s.want ≤ 10 ∧ 0 ≤ s.over ∧ s.over ≤ 10) (hnx : 1 ≤ s.next ∧ s.next ≤ 1000000) :
    Calls Tryz.prog 67 #[.pointer (some ⟨p, 0, none⟩)] W fun e W' => (if createOff cp s m then e = stopE 6 else e = .returned (.tuple #[]) ∧ ∃ p1' q1', Wk lo p W' X ae now (sv.set k (upNext s m)) (cp.take (placeAt cp s.nm s.next) ++ mkCps s now m ++ cp.drop (placeAt cp s.nm s.next)) bt k es (some ⟨g, 0, none⟩) p1' p2 pe n0 (n1 + m) n2 ne q0 q1' q2 qe) ∧ Below lo W W' := by
  have HW := hid h
  have c2 : W.cell? ⟨p, 2, none⟩ = some (.int .i64 X.create) := h.cell 2
  rw [hs] at c2
  have hz := h.lt
  have HK := hid hk
  have HA := hid hasc
  have HL := hid hlen
  have HSV := hid hsv
  have HLO := hid h.lo
  have HXC := hid hs
  have hm0 := h.m0
  obtain ⟨w1', w2', w3', w4'⟩ := hw
  obtain ⟨x1', x2'⟩ := hnx
  clear h hs hk hsv hasc hlen
  obtain ⟨R, hR⟩ : ∃ R, R = createOff cp s m := ⟨_, rfl⟩
  have HR := hid hR
  rw [← hR]
  clear hR
  have hmz : ¬ ((m : Int) = 0) := by omega
  go_enter Tryz.func67, Tryz.ntmps67
  go_wp2_with fail
  refine (serviceI HW.out HK.out).mono ?_
  rintro e w1 ⟨rfl, hb1⟩
  have HW1 := hid (HW.out.later hb1)
  have HB1 := hid (blw_less hb1 HLO.out)
  clear c2 hz hb1 HW
  obtain ⟨n, hn⟩ : ∃ n, n = cnL cp s.image (rowCp cp s.nm) := ⟨_, rfl⟩
  have HCN : Hid (∀ W', Below w1.heap.size w1 W' → Calls Tryz.prog 99 #[.agg #[.int .i64 now, .slice (some ⟨g, 0, none⟩) n0 q0, .slice p1 n1 q1, .slice p2 n2 q2], .agg #[.string s.nm, .int .i64 s.ver, .bool s.gone, .int .i64 s.image, .int .i64 s.want, .int .i64 s.down, .int .i64 s.over, .int .i64 s.next, .int .i64 s.per, .int .i64 s.least, .int .i64 s.most, .int .i64 s.load, .int .i64 s.cool]] W' fun e w' => e = .returned (.agg #[.int .i64 n.live, .int .i64 n.ready, .int .i64 n.old, .int .i64 n.failed, .int .i64 n.ending]) ∧ Below W'.heap.size W' w') := fun W' hb => by
    rw [hn]; exact (HW1.out.later hb).counted s HA.out HL.out
  have hle := cnL_le cp s.image (rowCp cp s.nm)
  have hrl : (rowCp cp s.nm).length ≤ 200 := Nat.le_trans (row_len _) (by rw [HW1.out.l1]; exact HL.out)
  rw [← hn] at hle
  have HR2 : Hid (R = (s.gone || decide (s.want + s.over < n.live + m))) := by show R = _; rw [HR.out, hn]; rfl
  obtain ⟨⟨l1, l2⟩, _, _, _, _⟩ := hle
  have l5 : n.live ≤ 200 := by omega
  clear hn HR l2 hrl
  obtain ⟨g', cur, eg, hlo, hgl, hgb, hcs, hsc⟩ := HW1.out.svAt (i := k) (by rw [HW1.out.l0]; exact HK.out)
  injection eg with eg
  injection eg with eg _ _
  subst eg
  rw [← HSV.out] at hsc
  have HSC := hid hsc
  have hz := HW1.out.lt
  have d2 : w1.cell? ⟨p, 2, none⟩ = some (.int .i64 (m : Int)) := by rw [← HXC.out]; exact HW1.out.cell 2
  go_upto_region 2 with fail
  have hNE := pst_some w1
  have hZ : ∀ px : Pst w1, p < px.W.heap.size := fun px => px.size hz
  have C8 : ∀ px : Pst w1, px.W.cell? ⟨p, 8, none⟩ = some (.int .i64 now) := fun px => px.cell ((HW1.out).cell 8) hz
  have C9 : ∀ px : Pst w1, px.W.cell? ⟨p, 9, none⟩ = some (.slice (some ⟨g, 0, none⟩) n0 q0) := fun px => px.cell ((HW1.out).cell 9) hz
  have C10 : ∀ px : Pst w1, px.W.cell? ⟨p, 10, none⟩ = some (.slice p1 n1 q1) := fun px => px.cell ((HW1.out).cell 10) hz
  have C11 : ∀ px : Pst w1, px.W.cell? ⟨p, 11, none⟩ = some (.slice p2 n2 q2) := fun px => px.cell ((HW1.out).cell 11) hz
  have C2 : ∀ px : Pst w1, px.W.cell? ⟨p, 2, none⟩ = some (.int .i64 (m : Int)) := fun px => px.cell d2 hz
  have hG : ∀ px : Pst w1, g < px.W.heap.size := fun px => px.size hgl
  have S0 : ∀ px : Pst w1, px.W.cell? ⟨g, k * 13, none⟩ = some (.string s.nm) := fun px => px.cell (hsc 0 _ rfl) hgl
  have S1 : ∀ px : Pst w1, px.W.cell? ⟨g, k * 13 + 1, none⟩ = some (.int .i64 s.ver) := fun px => px.cell (hsc 1 _ rfl) hgl
  have S2 : ∀ px : Pst w1, px.W.cell? ⟨g, k * 13 + 2, none⟩ = some (.bool s.gone) := fun px => px.cell (hsc 2 _ rfl) hgl
  have S3 : ∀ px : Pst w1, px.W.cell? ⟨g, k * 13 + 3, none⟩ = some (.int .i64 s.image) := fun px => px.cell (hsc 3 _ rfl) hgl
  have S4 : ∀ px : Pst w1, px.W.cell? ⟨g, k * 13 + 4, none⟩ = some (.int .i64 s.want) := fun px => px.cell (hsc 4 _ rfl) hgl
  have S5 : ∀ px : Pst w1, px.W.cell? ⟨g, k * 13 + 5, none⟩ = some (.int .i64 s.down) := fun px => px.cell (hsc 5 _ rfl) hgl
  have S6 : ∀ px : Pst w1, px.W.cell? ⟨g, k * 13 + 6, none⟩ = some (.int .i64 s.over) := fun px => px.cell (hsc 6 _ rfl) hgl
  have S7 : ∀ px : Pst w1, px.W.cell? ⟨g, k * 13 + 7, none⟩ = some (.int .i64 s.next) := fun px => px.cell (hsc 7 _ rfl) hgl
  have S8 : ∀ px : Pst w1, px.W.cell? ⟨g, k * 13 + 8, none⟩ = some (.int .i64 s.per) := fun px => px.cell (hsc 8 _ rfl) hgl
  have S9 : ∀ px : Pst w1, px.W.cell? ⟨g, k * 13 + 9, none⟩ = some (.int .i64 s.least) := fun px => px.cell (hsc 9 _ rfl) hgl
  have S10 : ∀ px : Pst w1, px.W.cell? ⟨g, k * 13 + 10, none⟩ = some (.int .i64 s.most) := fun px => px.cell (hsc 10 _ rfl) hgl
  have S11 : ∀ px : Pst w1, px.W.cell? ⟨g, k * 13 + 11, none⟩ = some (.int .i64 s.load) := fun px => px.cell (hsc 11 _ rfl) hgl
  have S12 : ∀ px : Pst w1, px.W.cell? ⟨g, k * 13 + 12, none⟩ = some (.int .i64 s.cool) := fun px => px.cell (hsc 12 _ rfl) hgl
  have hf := fun W => field_live (.int .i64 n.live) (.int .i64 n.ready) (.int .i64 n.old) (.int .i64 n.failed) (.int .i64 n.ending) W
  clear hz hsc hcs hgb cur
  refine region_class w1 (Below.refl _ _) (by kernel_rfl) (by kernel_rfl) ?_
  repeat (first
    | go_big_quiet_skip
    | (go_big_quiet_want; go_big_quiet_op; first | go_big_quiet_on | (apply Exists.intro; refine ⟨fun px => ?_, ?_⟩; (focus ((go_at_call 99; refine (HCN.out _ px.ok).mono ?_; rintro e w' ⟨he, hb⟩; exact ⟨he, ⟨w', blw_trans px.ok hb⟩, rfl⟩))); go_big_quiet_on)))
  refine wpQuiet_nil ?_
  intro _ hw'
  obtain ⟨x6, hw''⟩ := hw'
  subst hw''
  have HW2 := hid (HW1.out.later x6.ok)
  have HB2 := hid (blw_two HB1.out (blw_less x6.ok HW1.out.lo))
  have HSC2 : Hid (g < x6.W.heap.size ∧ ∀ j u, (SvC s)[j]? = some u → x6.W.cell? ⟨g, k * 13 + j, none⟩ = some u) := ⟨Nat.lt_of_lt_of_le hgl x6.ok.size, fun j u hu => (x6.ok.cell (p := ⟨g, k * 13 + j, none⟩) hgl).trans (HSC.out j u hu)⟩
  obtain ⟨w2, hw2⟩ : ∃ w2, w2 = x6.W := ⟨_, rfl⟩
  rw [← hw2] at HW2 HB2 HSC2
  go_upto_region 3 with fail
  rw [← hw2]
  clear hw2 S0 S1 S2 S3 S4 S5 S6 S7 S8 S9 S10 S11 S12 C8 C9 C10 C11 C2 hG hNE hZ HW1 HB1 HSC hgl d2 hf x6 HCN
  obtain ⟨hgl, hsc⟩ := HSC2.out
  have hNE := pst_some w2
  have hG : ∀ px : Pst w2, g < px.W.heap.size := fun px => px.size hgl
  have S2 : ∀ px : Pst w2, px.W.cell? ⟨g, k * 13 + 2, none⟩ = some (.bool s.gone) := fun px => px.cell (hsc 2 _ rfl) hgl
  have S4 : ∀ px : Pst w2, px.W.cell? ⟨g, k * 13 + 4, none⟩ = some (.int .i64 s.want) := fun px => px.cell (hsc 4 _ rfl) hgl
  have S6 : ∀ px : Pst w2, px.W.cell? ⟨g, k * 13 + 6, none⟩ = some (.int .i64 s.over) := fun px => px.cell (hsc 6 _ rfl) hgl
  clear hsc
  by_cases hgn : s.gone = true
  · have HE : Hid (R = true) := by show R = _; rw [HR2.out, hgn]; rfl
    rw [hgn] at S2
    refine region_qcut w2 (Below.refl _ _) 17 (by kernel_rfl) (by kernel_rfl) (by kernel_rfl) (by kernel_rfl) (by kernel_rfl) (by kernel_rfl) ?_
    simp only [List.take_succ_cons, List.take_zero, List.drop_succ_cons, List.drop_zero]
    repeat (first
      | go_big_quiet_skip
      | (go_big_quiet_want; go_big_quiet_op; first | go_big_quiet_on | (apply Exists.intro; refine ⟨fun px => ?_, ?_⟩; (focus (fail)); go_big_quiet_on)))
    refine wpQuiet_nil ?_
    intro _ hw'
    obtain ⟨x6, hw''⟩ := hw'
    subst hw''
    go_wp2_with fail
    refine (stopYes _ _).mono ?_
    rintro e w3 ⟨rfl, rfl⟩
    go_wp2
    exact ⟨rfl, by first | rfl | (rw [if_pos HE.out]; rfl), blw_two HB2.out (blw_less x6.ok HW2.out.lo)⟩
  replace hgn : s.gone = false := by simpa using hgn
  rw [hgn] at S2
  by_cases hov : s.want + s.over < n.live + m
  · have HE : Hid (R = true) := by show R = _; rw [HR2.out]; simp [hov]
    have hov' : decide (s.want + s.over < n.live + (m : Int)) = true := decide_eq_true hov
    refine region_qcut w2 (Below.refl _ _) 17 (by kernel_rfl) (by kernel_rfl) (by kernel_rfl) (by kernel_rfl) (by kernel_rfl) (by kernel_rfl) ?_
    simp only [List.take_succ_cons, List.take_zero, List.drop_succ_cons, List.drop_zero]
    repeat (first
      | go_big_quiet_skip
      | (go_big_quiet_want; go_big_quiet_op; first | go_big_quiet_on | (apply Exists.intro; refine ⟨fun px => ?_, ?_⟩; (focus (fail)); go_big_quiet_on)))
    refine wpQuiet_nil ?_
    intro _ hw'
    obtain ⟨x6, hw''⟩ := hw'
    subst hw''
    go_wp2_with fail
    refine (stopYes _ _).mono ?_
    rintro e w3 ⟨rfl, rfl⟩
    go_wp2
    exact ⟨rfl, by first | rfl | (rw [if_pos HE.out]; rfl), blw_two HB2.out (blw_less x6.ok HW2.out.lo)⟩
  have HE : Hid (¬ R = true) := by show ¬ _; rw [HR2.out, hgn]; simp [hov]
  have hov' : decide (s.want + s.over < n.live + (m : Int)) = false := decide_eq_false hov
  clear hov hgn HR2
  refine region_qcut w2 (Below.refl _ _) 17 (by kernel_rfl) (by kernel_rfl) (by kernel_rfl) (by kernel_rfl) (by kernel_rfl) (by kernel_rfl) ?_
  simp only [List.take_succ_cons, List.take_zero, List.drop_succ_cons, List.drop_zero]
  repeat (first
    | go_big_quiet_skip
    | (go_big_quiet_want; go_big_quiet_op; first | go_big_quiet_on | (apply Exists.intro; refine ⟨fun px => ?_, ?_⟩; (focus (fail)); go_big_quiet_on)))
  refine wpQuiet_nil ?_
  intro _ hw'
  obtain ⟨x6, hw''⟩ := hw'
  subst hw''
  go_wp2_with fail
  refine (stopNo _ _).mono ?_
  rintro e w3 ⟨rfl, hw3⟩
  have HW3 := hid (HW2.out.later x6.ok)
  have HB3 := hid (blw_two HB2.out (blw_less x6.ok HW2.out.lo))
  have HSC3 : Hid (g < x6.W.heap.size ∧ ∀ j u, (SvC s)[j]? = some u → x6.W.cell? ⟨g, k * 13 + j, none⟩ = some u) := ⟨Nat.lt_of_lt_of_le hgl x6.ok.size, fun j u hu => (x6.ok.cell (p := ⟨g, k * 13 + j, none⟩) hgl).trans (HSC2.out.2 j u hu)⟩
  rw [← hw3] at HW3 HB3 HSC3
  clear hw3 S2 S4 S6 hG hNE HW2 HB2 HSC2 hgl hov' x6
  go_upto_region 4 with fail
  obtain ⟨hgl, hsc⟩ := HSC3.out
  have hz := HW3.out.lt
  have hNE := pst_some w3
  have hZ : ∀ px : Pst w3, p < px.W.heap.size := fun px => px.size hz
  have C8 : ∀ px : Pst w3, px.W.cell? ⟨p, 8, none⟩ = some (.int .i64 now) := fun px => px.cell ((HW3.out).cell 8) hz
  have C9 : ∀ px : Pst w3, px.W.cell? ⟨p, 9, none⟩ = some (.slice (some ⟨g, 0, none⟩) n0 q0) := fun px => px.cell ((HW3.out).cell 9) hz
  have C10 : ∀ px : Pst w3, px.W.cell? ⟨p, 10, none⟩ = some (.slice p1 n1 q1) := fun px => px.cell ((HW3.out).cell 10) hz
  have C11 : ∀ px : Pst w3, px.W.cell? ⟨p, 11, none⟩ = some (.slice p2 n2 q2) := fun px => px.cell ((HW3.out).cell 11) hz
  have hG : ∀ px : Pst w3, g < px.W.heap.size := fun px => px.size hgl
  have S0 : ∀ px : Pst w3, px.W.cell? ⟨g, k * 13, none⟩ = some (.string s.nm) := fun px => px.cell (hsc 0 _ rfl) hgl
  have S7 : ∀ px : Pst w3, px.W.cell? ⟨g, k * 13 + 7, none⟩ = some (.int .i64 s.next) := fun px => px.cell (hsc 7 _ rfl) hgl
  clear hsc hz
  refine region_class w3 (Below.refl _ _) (by kernel_rfl) (by kernel_rfl) ?_
  repeat (first
    | go_big_quiet_skip
    | (go_big_quiet_want; go_big_quiet_op; first | go_big_quiet_on | (apply Exists.intro; refine ⟨fun px => ?_, ?_⟩; (focus ((go_at_call 95; refine ((HW3.out.later px.ok).copyPlace s.nm s.next HA.out).mono ?_; rintro e w' ⟨he, hb⟩; exact ⟨he, ⟨w', blw_trans px.ok hb⟩, rfl⟩))); go_big_quiet_on)))
  refine wpQuiet_nil ?_
  intro _ hw'
  obtain ⟨x6, hw''⟩ := hw'
  subst hw''
  obtain ⟨w4, hw4⟩ : ∃ w4, w4 = x6.W := ⟨_, rfl⟩
  have HW4 := hid (HW3.out.later x6.ok)
  have HB4 := hid (blw_two HB3.out (blw_less x6.ok HW3.out.lo))
  rw [← hw4] at HW4 HB4
  have d2 : w4.cell? ⟨p, 2, none⟩ = some (.int .i64 (m : Int)) := by rw [← HXC.out]; exact HW4.out.cell 2
  have hz := HW4.out.lt
  rw [← hw4]
  clear hw4 C8 C9 C10 C11 S0 S7 hG hNE hZ HW3 HB3 HSC3 hgl x6
  obtain ⟨at_, hat⟩ : ∃ at_, at_ = placeAt cp s.nm s.next := ⟨_, rfl⟩
  have HAT : Hid (at_ ≤ n1) := by show _ ≤ _; rw [hat, ← HW4.out.l1]; exact placeAt_le _ _ _
  have HATE := hid hat
  rw [← hat]
  obtain ⟨bb, hbb⟩ : ∃ bb, bb = decide (0 ≤ cpIx cp s.nm s.next) := ⟨_, rfl⟩
  rw [← hbb]
  clear hat hbb
  obtain ⟨lc, hlc⟩ : ∃ lc, lc = w4.heap.size := ⟨_, rfl⟩
  have HLC : Hid (Lw lc p (some ⟨g, 0, none⟩) p1 p2 pe ∧ lo ≤ lc) := by rw [hlc]; exact ⟨HW4.out.lw, HW4.out.lo⟩
  have HI0 : Hid (Wk lo p w4 X ae now (sv.set k (upNext s 0)) cp bt k es (some ⟨g, 0, none⟩) p1 p2 pe n0 n1 n2 ne q0 q1 q2 qe ∧ w4.ownsRow lc 90 7 (.slice none 0 0) 0 ((mkCps s now 0).flatMap CpC) ∧ Below lo W w4 ∧ lc ≤ w4.heap.size) := by
    refine ⟨?_, World.ownsRow_nil _ _ _ _, HB4.out, by rw [hlc]; exact Nat.le_refl _⟩
    have e : sv.set k (upNext s 0) = sv := by
      have e0 : upNext s 0 = s := by unfold upNext; simp
      rw [e0, HSV.out]
      have hkl : k < sv.length := by rw [HW4.out.l0]; exact HK.out
      have e1 : sv.getD k Sv.none = sv[k] := by simp [hkl]
      rw [e1]
      exact List.set_getElem_self hkl
    rw [e]
    exact HW4.out
  clear hlc
  go_wp2
  clear d2 hz HW4 HB4
  go_loopw [6, 69] (fun v i wr => ∃ q : Nat, q ≤ m ∧ i = .int .i64 q ∧ Wk lo p wr X ae now (sv.set k (upNext s q)) cp bt k es (some ⟨g, 0, none⟩) p1 p2 pe n0 n1 n2 ne q0 q1 q2 qe ∧ wr.ownsRow lc 90 7 v q ((mkCps s now q).flatMap CpC) ∧ Below lo W wr ∧ lc ≤ wr.heap.size) (fun _ i _ => m - (intOf i).toNat)
  case atStart => exact ⟨0, Nat.zero_le _, rfl, HI0.out⟩
  case round =>
    obtain ⟨q, hq, rfl, hWq, hoq, hBq, hlq⟩ := hrel
    have HWq := hid hWq
    have HOq := hid hoq
    have HBq := hid hBq
    have HLq := hid hlq
    clear hWq hoq hBq hlq
    by_cases hlt : q < m
    · have hkl : k < sv.length := by have := HWq.out.l0; rw [List.length_set] at this; rw [this]; exact HK.out
      have hkl' : k < (sv.set k (upNext s q)).length := by rw [List.length_set]; exact hkl
      obtain ⟨g', cur, eg, hlo', hgl, hgb, hcs, hsc⟩ := HWq.out.svAt (i := k) hkl'
      injection eg with eg
      injection eg with eg _ _
      subst eg
      rw [getD_set_at Sv.none hkl] at hsc
      have HSC := hid hsc
      have hz := HWq.out.lt
      have q0' : (0 : Int) ≤ (q : Int) := by omega
      have q1' : (q : Int) < (m : Int) := by omega
      clear hsc hcs hgb cur
      go_upto_region 8 with fail
      refine RY.region_TO (VCr p g k u6 s.nm (s.next + q) now s.image) (TCr wr lc q ((mkCps s now q).flatMap CpC) (CpC (mkCp s now q))) (by kernel_rfl) (by kernel_rfl) (by kernel_rfl) (by kernel_rfl) ?_ ?_ ?_
      · intro vals
        exact ⟨fun _ => Below.drew (Below.refl _ _), fun h => (by cases h), fun h => (by cases h), fun h => (by cases h)⟩
      · intro up vals i o ho hi hcl a W hk hd hT
        have et0 : a.tmps[0]?.getD undef = .pointer (some ⟨p, 0, none⟩) := (RY.ev_tmp a 0).trans ((hk 0 (fun j o' hj hd => absurd hd (RY.noDst_spec (by kernel_rfl) hj))).trans rfl)
        have et2 : a.tmps[2]?.getD undef = .pointer (some ⟨g, k * 13, none⟩) := (RY.ev_tmp a 2).trans ((hk 2 (fun j o' hj hd => absurd hd (RY.noDst_spec (by kernel_rfl) hj))).trans rfl)
        have c20_19 : up 20 = true → up 19 = true := hcl 20 _ ⟨19, .data⟩ rfl (by simp) rfl
        have c19_18 : up 19 = true → up 18 = true := hcl 19 _ ⟨18, .data⟩ rfl (by simp) rfl
        have c18_4 : up 18 = true → up 4 = true := hcl 18 _ ⟨4, .data⟩ rfl (by simp) rfl
        have c18_8 : up 18 = true → up 8 = true := hcl 18 _ ⟨8, .data⟩ rfl (by simp) rfl
        have c18_13 : up 18 = true → up 13 = true := hcl 18 _ ⟨13, .data⟩ rfl (by simp) rfl
        have c18_17 : up 18 = true → up 17 = true := hcl 18 _ ⟨17, .data⟩ rfl (by simp) rfl
        have c21_20 : up 21 = true → up 20 = true := hcl 21 _ ⟨20, .data⟩ rfl (by simp) rfl
        have c21_0 : up 21 = true → up 0 = true := hcl 21 _ ⟨0, .phase⟩ rfl (by simp) rfl
        match i, ho with
        | 0, ho =>
          injection ho with ho; subst ho
          have u21 : up 21 = false := by cases q : up 21 with
            | false => rfl
            | true => rw [c21_0 q] at hi; cases hi
          have et6 : a.tmps[6]?.getD undef = u6 := (RY.ev_tmp a 6).trans ((hk 6 (fun j o' hj hd => by
            have : j = 21 := RY.apart_spec (by kernel_rfl) hj rfl hd rfl
            subst this; exact u21)).trans rfl)
          exact Or.inl ⟨u6, W, by simp [execOp, go_sem, et6], rfl, rfl, hT.pure 0 _ (by decide) (by decide) (by decide)⟩
        | 1, ho =>
          injection ho with ho; subst ho
          exact Or.inl ⟨.pointer (some ⟨g, k * 13, none⟩), W, by simp [execOp, go_sem, et2], rfl, rfl, hT.pure 1 _ (by decide) (by decide) (by decide)⟩
        | 2, ho =>
          injection ho with ho; subst ho
          have e0 : a.tmps[72]?.getD undef = _ := (RY.ev_tmp a 72).trans ((hd 1 _ 72 rfl rfl ⟨⟨1, .data⟩, by simp, rfl, rfl⟩).2.1.trans (hd 1 _ 72 rfl rfl ⟨⟨1, .data⟩, by simp, rfl, rfl⟩).2.2)
          exact Or.inl ⟨.pointer (some ⟨g, k * 13, none⟩), W, by simp [execOp, go_sem, e0], rfl, rfl, hT.pure 2 _ (by decide) (by decide) (by decide)⟩
        | 3, ho =>
          injection ho with ho; subst ho
          have e0 : a.tmps[73]?.getD undef = _ := (RY.ev_tmp a 73).trans ((hd 2 _ 73 rfl rfl ⟨⟨2, .data⟩, by simp, rfl, rfl⟩).2.1.trans (hd 2 _ 73 rfl rfl ⟨⟨2, .data⟩, by simp, rfl, rfl⟩).2.2)
          exact Or.inl ⟨.pointer (some ⟨g, k * 13, none⟩), W, by simp [execOp, go_sem, e0], rfl, rfl, hT.pure 3 _ (by decide) (by decide) (by decide)⟩
        | 4, ho =>
          injection ho with ho; subst ho
          have e0 : a.tmps[74]?.getD undef = _ := (RY.ev_tmp a 74).trans ((hd 3 _ 74 rfl rfl ⟨⟨3, .data⟩, by simp, rfl, rfl⟩).2.1.trans (hd 3 _ 74 rfl rfl ⟨⟨3, .data⟩, by simp, rfl, rfl⟩).2.2)
          have h20 : up 20 = false := by cases q : up 20 with
            | false => rfl
            | true => rw [c18_4 (c19_18 (c20_19 q))] at hi; cases hi
          have b : W.cell? ⟨g, k * 13, none⟩ = some (.string s.nm) := ((hT.a h20).cell (p := ⟨g, k * 13, none⟩) hgl).trans (HSC.out 0 _ rfl)
          exact Or.inl ⟨.string s.nm, W, by simp [execOp, go_sem, e0, b], rfl, rfl, hT.pure 4 _ (by decide) (by decide) (by decide)⟩
        | 5, ho =>
          injection ho with ho; subst ho
          exact Or.inl ⟨.pointer (some ⟨g, k * 13, none⟩), W, by simp [execOp, go_sem, et2], rfl, rfl, hT.pure 5 _ (by decide) (by decide) (by decide)⟩
        | 6, ho =>
          injection ho with ho; subst ho
          have e0 : a.tmps[76]?.getD undef = _ := (RY.ev_tmp a 76).trans ((hd 5 _ 76 rfl rfl ⟨⟨5, .data⟩, by simp, rfl, rfl⟩).2.1.trans (hd 5 _ 76 rfl rfl ⟨⟨5, .data⟩, by simp, rfl, rfl⟩).2.2)
          exact Or.inl ⟨.pointer (some ⟨g, k * 13, none⟩), W, by simp [execOp, go_sem, e0], rfl, rfl, hT.pure 6 _ (by decide) (by decide) (by decide)⟩
        | 7, ho =>
          injection ho with ho; subst ho
          have e0 : a.tmps[77]?.getD undef = _ := (RY.ev_tmp a 77).trans ((hd 6 _ 77 rfl rfl ⟨⟨6, .data⟩, by simp, rfl, rfl⟩).2.1.trans (hd 6 _ 77 rfl rfl ⟨⟨6, .data⟩, by simp, rfl, rfl⟩).2.2)
          exact Or.inl ⟨.pointer (some ⟨g, k * 13 + 7, none⟩), W, by simp [execOp, go_sem, e0], rfl, rfl, hT.pure 7 _ (by decide) (by decide) (by decide)⟩
        | 8, ho =>
          injection ho with ho; subst ho
          have e0 : a.tmps[78]?.getD undef = _ := (RY.ev_tmp a 78).trans ((hd 7 _ 78 rfl rfl ⟨⟨7, .data⟩, by simp, rfl, rfl⟩).2.1.trans (hd 7 _ 78 rfl rfl ⟨⟨7, .data⟩, by simp, rfl, rfl⟩).2.2)
          have h20 : up 20 = false := by cases q : up 20 with
            | false => rfl
            | true => rw [c18_8 (c19_18 (c20_19 q))] at hi; cases hi
          have b : W.cell? ⟨g, k * 13 + 7, none⟩ = some (.int .i64 (s.next + q)) := ((hT.a h20).cell (p := ⟨g, k * 13 + 7, none⟩) hgl).trans (HSC.out 7 _ rfl)
          exact Or.inl ⟨.int .i64 (s.next + q), W, by simp [execOp, go_sem, e0, b], rfl, rfl, hT.pure 8 _ (by decide) (by decide) (by decide)⟩
        | 9, ho =>
          injection ho with ho; subst ho
          exact Or.inl ⟨.pointer (some ⟨p, 0, none⟩), W, by simp [execOp, go_sem, et0], rfl, rfl, hT.pure 9 _ (by decide) (by decide) (by decide)⟩
        | 10, ho =>
          injection ho with ho; subst ho
          have e0 : a.tmps[80]?.getD undef = _ := (RY.ev_tmp a 80).trans ((hd 9 _ 80 rfl rfl ⟨⟨9, .data⟩, by simp, rfl, rfl⟩).2.1.trans (hd 9 _ 80 rfl rfl ⟨⟨9, .data⟩, by simp, rfl, rfl⟩).2.2)
          exact Or.inl ⟨.pointer (some ⟨p, 0, none⟩), W, by simp [execOp, go_sem, e0], rfl, rfl, hT.pure 10 _ (by decide) (by decide) (by decide)⟩
        | 11, ho =>
          injection ho with ho; subst ho
          have e0 : a.tmps[81]?.getD undef = _ := (RY.ev_tmp a 81).trans ((hd 10 _ 81 rfl rfl ⟨⟨10, .data⟩, by simp, rfl, rfl⟩).2.1.trans (hd 10 _ 81 rfl rfl ⟨⟨10, .data⟩, by simp, rfl, rfl⟩).2.2)
          exact Or.inl ⟨.pointer (some ⟨p, 8, none⟩), W, by simp [execOp, go_sem, e0], rfl, rfl, hT.pure 11 _ (by decide) (by decide) (by decide)⟩
        | 12, ho =>
          injection ho with ho; subst ho
          have e0 : a.tmps[82]?.getD undef = _ := (RY.ev_tmp a 82).trans ((hd 11 _ 82 rfl rfl ⟨⟨11, .data⟩, by simp, rfl, rfl⟩).2.1.trans (hd 11 _ 82 rfl rfl ⟨⟨11, .data⟩, by simp, rfl, rfl⟩).2.2)
          exact Or.inl ⟨.pointer (some ⟨p, 8, none⟩), W, by simp [execOp, go_sem, e0], rfl, rfl, hT.pure 12 _ (by decide) (by decide) (by decide)⟩
        | 13, ho =>
          injection ho with ho; subst ho
          have e0 : a.tmps[83]?.getD undef = _ := (RY.ev_tmp a 83).trans ((hd 12 _ 83 rfl rfl ⟨⟨12, .data⟩, by simp, rfl, rfl⟩).2.1.trans (hd 12 _ 83 rfl rfl ⟨⟨12, .data⟩, by simp, rfl, rfl⟩).2.2)
          have h20 : up 20 = false := by cases q : up 20 with
            | false => rfl
            | true => rw [c18_13 (c19_18 (c20_19 q))] at hi; cases hi
          have b : W.cell? ⟨p, 8, none⟩ = some (.int .i64 now) := ((hT.a h20).cell (p := ⟨p, 8, none⟩) hz).trans (HWq.out.cell 8)
          exact Or.inl ⟨.int .i64 now, W, by simp [execOp, go_sem, e0, b], rfl, rfl, hT.pure 13 _ (by decide) (by decide) (by decide)⟩
        | 14, ho =>
          injection ho with ho; subst ho
          exact Or.inl ⟨.pointer (some ⟨g, k * 13, none⟩), W, by simp [execOp, go_sem, et2], rfl, rfl, hT.pure 14 _ (by decide) (by decide) (by decide)⟩
        | 15, ho =>
          injection ho with ho; subst ho
          have e0 : a.tmps[85]?.getD undef = _ := (RY.ev_tmp a 85).trans ((hd 14 _ 85 rfl rfl ⟨⟨14, .data⟩, by simp, rfl, rfl⟩).2.1.trans (hd 14 _ 85 rfl rfl ⟨⟨14, .data⟩, by simp, rfl, rfl⟩).2.2)
          exact Or.inl ⟨.pointer (some ⟨g, k * 13, none⟩), W, by simp [execOp, go_sem, e0], rfl, rfl, hT.pure 15 _ (by decide) (by decide) (by decide)⟩
        | 16, ho =>
          injection ho with ho; subst ho
          have e0 : a.tmps[86]?.getD undef = _ := (RY.ev_tmp a 86).trans ((hd 15 _ 86 rfl rfl ⟨⟨15, .data⟩, by simp, rfl, rfl⟩).2.1.trans (hd 15 _ 86 rfl rfl ⟨⟨15, .data⟩, by simp, rfl, rfl⟩).2.2)
          exact Or.inl ⟨.pointer (some ⟨g, k * 13 + 3, none⟩), W, by simp [execOp, go_sem, e0], rfl, rfl, hT.pure 16 _ (by decide) (by decide) (by decide)⟩
        | 17, ho =>
          injection ho with ho; subst ho
          have e0 : a.tmps[87]?.getD undef = _ := (RY.ev_tmp a 87).trans ((hd 16 _ 87 rfl rfl ⟨⟨16, .data⟩, by simp, rfl, rfl⟩).2.1.trans (hd 16 _ 87 rfl rfl ⟨⟨16, .data⟩, by simp, rfl, rfl⟩).2.2)
          have h20 : up 20 = false := by cases q : up 20 with
            | false => rfl
            | true => rw [c18_17 (c19_18 (c20_19 q))] at hi; cases hi
          have b : W.cell? ⟨g, k * 13 + 3, none⟩ = some (.int .i64 s.image) := ((hT.a h20).cell (p := ⟨g, k * 13 + 3, none⟩) hgl).trans (HSC.out 3 _ rfl)
          exact Or.inl ⟨.int .i64 s.image, W, by simp [execOp, go_sem, e0, b], rfl, rfl, hT.pure 17 _ (by decide) (by decide) (by decide)⟩
        | 18, ho =>
          injection ho with ho; subst ho
          have e0 : a.tmps[75]?.getD undef = _ := (RY.ev_tmp a 75).trans ((hd 4 _ 75 rfl rfl ⟨⟨4, .data⟩, by simp, rfl, rfl⟩).2.1.trans (hd 4 _ 75 rfl rfl ⟨⟨4, .data⟩, by simp, rfl, rfl⟩).2.2)
          have e1 : a.tmps[79]?.getD undef = _ := (RY.ev_tmp a 79).trans ((hd 8 _ 79 rfl rfl ⟨⟨8, .data⟩, by simp, rfl, rfl⟩).2.1.trans (hd 8 _ 79 rfl rfl ⟨⟨8, .data⟩, by simp, rfl, rfl⟩).2.2)
          have e2 : a.tmps[84]?.getD undef = _ := (RY.ev_tmp a 84).trans ((hd 13 _ 84 rfl rfl ⟨⟨13, .data⟩, by simp, rfl, rfl⟩).2.1.trans (hd 13 _ 84 rfl rfl ⟨⟨13, .data⟩, by simp, rfl, rfl⟩).2.2)
          have e3 : a.tmps[88]?.getD undef = _ := (RY.ev_tmp a 88).trans ((hd 17 _ 88 rfl rfl ⟨⟨17, .data⟩, by simp, rfl, rfl⟩).2.1.trans (hd 17 _ 88 rfl rfl ⟨⟨17, .data⟩, by simp, rfl, rfl⟩).2.2)
          exact Or.inl ⟨.agg #[.string s.nm, .int .i64 (s.next + q), .int .i64 now, .int .i64 s.image, .int .i64 1, .bool false, .string ByteArray.empty], W, by simp [execOp, go_sem, e0, e1, e2, e3]; rfl, rfl, rfl, hT.pure 18 _ (by decide) (by decide) (by decide)⟩
        | 19, ho =>
          injection ho with ho; subst ho
          have e0 : a.tmps[89]?.getD undef = _ := (RY.ev_tmp a 89).trans ((hd 18 _ 89 rfl rfl ⟨⟨18, .data⟩, by simp, rfl, rfl⟩).2.1.trans (hd 18 _ 89 rfl rfl ⟨⟨18, .data⟩, by simp, rfl, rfl⟩).2.2)
          have u20 : up 20 = false := by cases q : up 20 with
            | false => rfl
            | true => rw [c20_19 q] at hi; cases hi
          have u21 : up 21 = false := by cases q : up 21 with
            | false => rfl
            | true => rw [c21_20 q] at u20; cases u20
          have hbl := hT.a u20
          refine Or.inl ⟨.slice (some ⟨W.heap.size, 0, none⟩) 1 1, W.alloc (.cells #[.string s.nm, .int .i64 (s.next + q), .int .i64 now, .int .i64 s.image, .int .i64 1, .bool false, .string ByteArray.empty] 90), by simp [execOp, go_sem, e0], rfl, trivial, ⟨fun _ => blw_alloc hbl _, fun _ _ => ⟨W.heap.size, rfl, fun j u hu => ?_⟩, fun h => ?_, fun h => ?_⟩⟩
          · rw [World.cell?_alloc_at _ _ _ _ rfl]
            rw [← hu]
            simp [CpC, mkCp]
          · have : ((20 == 19) || up 20) = true := h
            rw [u20] at this; cases this
          · have : ((21 == 19) || up 21) = true := h
            rw [u21] at this; cases this
        | 20, ho =>
          injection ho with ho; subst ho
          have d0 := hd 0 _ 71 rfl rfl ⟨⟨0, .data⟩, by simp, rfl, rfl⟩
          have d1 := hd 19 _ 90 rfl rfl ⟨⟨19, .data⟩, by simp, rfl, rfl⟩
          obtain ⟨b, eb, hcb⟩ := hT.b d1.1 hi
          have hbl := hT.a hi
          have u21 : up 21 = false := by cases q : up 21 with
            | false => rfl
            | true => rw [c21_20 q] at hi; cases hi
          obtain ⟨i1, hi1, ei1⟩ := Option.map_eq_some_iff.1 Tryz.infCp
          simp only [Prod.mk.injEq] at ei1
          obtain ⟨hz1, hs1, hy1⟩ := ei1
          obtain ⟨v', W', hr, ho', hgr, _⟩ := run_append_own (P := Tryz.prog) (w := W) lc 33 33 90 i1 _ 7 72 Tryz.undCp hi1 hz1 hs1 hy1 rfl (by decide) u6 q _ (owns_on HOq.out hbl) ⟨b, 0, none⟩ 1 1 (CpC (mkCp s now q)) rfl (fun j u hj => by rw [addN, Nat.zero_add]; exact hcb j u hj) (fun u hu => CpC_one [mkCp s now q] u (by simpa using hu)) (by unfold maxLen; omega) (by omega) (Nat.le_trans HLq.out hbl.size)
          refine Or.inl ⟨v', W', exec_append (.tmp 71) (.tmp 90) 33 rfl (d0.2.1.trans d0.2.2) (d1.2.1.trans eb) hr, rfl, trivial, ⟨fun h => ?_, fun _ h => ?_, fun _ => ⟨ho', ?_⟩, fun h => ?_⟩⟩
          · simp at h
          · simp at h
          · exact blw_two (blw_less hbl HLq.out) (Below.grown (Below.refl _ _) hgr (Nat.le_trans HLq.out hbl.size) (fun x hx => (World.ownsRow.lt (owns_on HOq.out hbl) x hx).1))
          · have : ((21 == 20) || up 21) = true := h
            rw [u21] at this; cases this
        | 21, ho =>
          injection ho with ho; subst ho
          have d0 := hd 20 _ 91 rfl rfl ⟨⟨20, .data⟩, by simp, rfl, rfl⟩
          have e0 : a.tmps[91]?.getD undef = vals 20 := (RY.ev_tmp a 91).trans d0.2.1
          refine Or.inl ⟨vals 20, W, by simp [execOp, go_sem, e0], rfl, trivial, ⟨fun h => ?_, fun _ h => ?_, fun _ => ?_, fun _ => rfl⟩⟩
          · have : ((20 == 21) || up 20) = false := h
            rw [d0.1] at this; cases this
          · have : ((20 == 21) || up 20) = false := h
            rw [d0.1] at this; cases this
          · exact hT.d d0.1
        | n + 22, ho => simp at ho
      intro up vals vs w5 hall hv hT
      obtain ⟨ho5, hb5⟩ := hT.d (hall 20 (by decide))
      have e6 : vs 6 = vals 20 := (hv 21 _ 6 rfl rfl).1.trans (hT.e (hall 21 (by decide)))
      simp only [RY.putAll, Act.put, List.setIfInBounds_toArray, List.set_cons_zero, List.set_cons_succ]
      rw [e6]
      generalize vals 20 = v5 at ho5
      generalize vs 71 = s71
      generalize vs 72 = s72
      generalize vs 73 = s73
      generalize vs 74 = s74
      generalize vs 75 = s75
      generalize vs 76 = s76
      generalize vs 77 = s77
      generalize vs 78 = s78
      generalize vs 79 = s79
      generalize vs 80 = s80
      generalize vs 81 = s81
      generalize vs 82 = s82
      generalize vs 83 = s83
      generalize vs 84 = s84
      generalize vs 85 = s85
      generalize vs 86 = s86
      generalize vs 87 = s87
      generalize vs 88 = s88
      generalize vs 89 = s89
      generalize vs 90 = s90
      generalize vs 91 = s91
      clear hall hv hT e6 up vals vs
      have HW5 := hid (HWq.out.under HLC.out.1 hb5)
      have HB5 := hid (blw_two HBq.out (blw_less hb5 HLC.out.2))
      have HL5 := hid (Nat.le_trans HLq.out hb5.size)
      have HO5 := hid ho5
      clear HSC hgl hz ho5 hb5 HWq HOq HBq HLq
      obtain ⟨g', cur, eg, hlo5, hgl, hgb, hcs, hsc⟩ := HW5.out.svAt (i := k) hkl'
      injection eg with eg
      injection eg with eg _ _
      subst eg
      rw [getD_set_at Sv.none hkl] at hsc
      have n7 : w5.cell? ⟨g, k * 13 + 7, none⟩ = some (.int .i64 (s.next + q)) := hsc 7 _ rfl
      have f7 := frozen_block hgb (k * 13 + 7)
      have hss : s.sized := by rw [HSV.out]; have := HW5.out.z0 k hkl'; rw [getD_set_at Sv.none hkl] at this; rw [← HSV.out]; exact this
      have u1 := HW5.out.setSv hgb k 7 hkl' (by omega) (.int .i64 (s.next + q + 1)) (upNext s (q + 1)) (by rw [getD_set_at Sv.none hkl]; simp [SvC, upNext]; omega) hss
      rw [List.set_set] at u1
      have HU := hid u1
      have HO6 : Hid ((w5.setCell ⟨g, k * 13 + 7, none⟩ (.int .i64 (s.next + q + 1))).ownsRow lc 90 7 v5 (q + 1) ((mkCps s now (q + 1)).flatMap CpC)) := by
        show World.ownsRow _ _ _ _ _ _ _
        rw [mkCps_succ, List.flatMap_append]
        have e : [mkCp s now q].flatMap CpC = CpC (mkCp s now q) := by simp
        rw [e]
        exact owns_else HO5.out hgb (fun e => t_sc e.symm) _ _
      have HB6 := hid (blw_sc HB5.out hlo5 (k * 13 + 7) (.int .i64 (s.next + q + 1)))
      have HL6 : Hid (lc ≤ (w5.setCell ⟨g, k * 13 + 7, none⟩ (.int .i64 (s.next + q + 1))).heap.size) := by show _ ≤ _; rw [sc_size]; exact HL5.out
      have hw1 : IntKind.i64.wrap (s.next + q + 1) = s.next + q + 1 := wrapI _ (by omega) (by omega)
      clear u1 hsc hcs hss
      go_wp2
      go_roundw
      case rel => exact ⟨q + 1, by omega, by go_num, HU.out, HO6.out, HB6.out, HL6.out⟩
      case measure => simp [intOf]; omega
    · obtain rfl : q = m := by omega
      have HE2 := HE
      have hz := HWq.out.lt
      obtain ⟨va, vc, rfl⟩ := owns_is HOq.out
      have d10 : wr.cell? ⟨p, 10, none⟩ = some (.slice p1 n1 q1) := HWq.out.cell 10
      have hlx : (mkCps s now q).length = q := mkCps_len s now q
      have HIN := hid (insI lo wr p1 n1 q1 cp (mkCps s now q) HWq.out.o1 lc (.slice va q vc) (by rw [hlx]; exact HOq.out) (by rw [hlx]; exact hm) (fun x hx => HLC.out.1.a1 x hx) at_ HAT.out (by rw [hlx]; have := HL.out; omega) HWq.out.lo)
      clear hlx
      go_wp2_with fail
      refine HIN.out.mono ?_
      rintro e w6 ⟨g6, q6, rfl, ho6, hb6⟩
      clear d10 hz
      have hss : s.sized := by
        have hkl : k < sv.length := by have := HWq.out.l0; rw [List.length_set] at this; rw [this]; exact HK.out
        have := HWq.out.z0 k (by rw [List.length_set]; exact hkl)
        rw [getD_set_at Sv.none hkl] at this
        exact this
      have u1 := HWq.out.ins at_ HAT.out (mkCps s now q) (mkCps_sized hss now q) g6 q6 ho6 hb6 (by rw [mkCps_len]; have := HL.out; omega)
      rw [mkCps_len] at u1
      have HU := hid u1
      have hbl : Below lo wr w6 := hb6.lo (fun x hx => by
        rcases HWq.out.o1.2 with ⟨e, _⟩ | ⟨g7, cap, cur, e, hl7, _⟩
        · cases e; cases hx
        · cases e; injection hx with hx; injection hx with hx _ _; subst hx; exact hl7) HWq.out.lo
      have HB6 := hid (blw_sc (blw_two HBq.out hbl) HWq.out.lp 10 (.slice (some ⟨g6, 0, none⟩) (n1 + q) q6))
      have hbx : w6.heap[p]? = some (.cells #[.string X.svc, .int .i64 X.seen, .int .i64 X.create, .int .i64 X.want, .int .i64 X.cool, .bool X.scale, ae, .bool X.drop, .int .i64 now, .slice (some ⟨g, 0, none⟩) n0 q0, .slice p1 n1 q1, .slice p2 n2 q2, .int .i64 (k : Nat), .slice pe ne qe] 115 (0, 0)) := by
        rcases HWq.out.o1.2 with ⟨e, _⟩ | ⟨g7, cap, cur, e, _, hg7, _⟩
        · cases e; exact (hb6.block p HWq.out.lt fun x hx => by cases hx).trans HWq.out.bx
        · cases e; exact hb6.heap HWq.out.bx hg7 t_wc
      have x10 : w6.cell? ⟨p, 10, none⟩ = some (.slice p1 n1 q1) := cellsOf_block hbx 10
      have f10 := frozen_block hbx 10
      have hz := lt_block hbx
      rw [mkCps_len]
      clear u1 hbl hbx hss ho6 hb6 HIN
      go_wp2
      first | go_end0 | refine bodyPost_ret (results_none rfl _ _ _) rfl ?_
      have hu := HU.out
      rw [HATE.out] at hu
      first
        | exact ⟨⟨rfl, _, _, hu⟩, HB6.out⟩
        | (rw [List.append_assoc] at hu; exact ⟨⟨rfl, _, _, hu⟩, HB6.out⟩)

end Go.Proofs.YtpamkibnahhphaaGreatDoor
