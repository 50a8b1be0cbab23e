/-
  Stewards: what a steward asks for a service, by the specification.
-/
import Derived.Test.YtamhfnlogldpaaaGreatStX
import Derived.Test.YtamhfnlogldpaaaGreatStY
namespace Go.Proofs.YtamhfnlogldpaaaGreat
open Go.RowKit Go.Deep

/-- What a steward of a kind asks for a service. -/
def actAc (kind : Int) (K : SBk) (s : Sv) : Ac :=
  if kind = 3 then ⟨s.nm, s.ver, 0, 0, 0, false, endsOf K (someOf K s 3), false⟩
  else if s.gone = true then (if kind = 5 then ⟨s.nm, s.ver, 0, 0, 0, false, endsOf K (liveOf K s.nm), decide ((countOf K s.nm).live + (countOf K s.nm).ending = 0)⟩ else baseAc s)
  else if kind = 1 then counterAc K s
  else if kind = 2 then replAc K s (someOf K s 2)
  else if kind = 6 then (if (someOf K s 2).length = 0 then replAc K s (someOf K s 6) else baseAc s)
  else if kind = 4 then (if 0 < s.per then scalAc s else baseAc s)
  else baseAc s

/-- What is kept while an act is made: the book's box, the service's, the result and the act. -/
structure CA (w W : World) (v0 v1 v2 v3 : Value) (s : Sv) (cs : List Value) : Prop where
  bel : Below w.heap.size w W
  bk : Box4 W w.heap.size v0 v1 v2 v3
  sv : Box13 W (w.heap.size + 1) (.string s.nm) (.int .i64 s.ver) (.bool s.gone) (.int .i64 s.image) (.int .i64 s.want) (.int .i64 s.down) (.int .i64 s.over) (.int .i64 s.next) (.int .i64 s.per) (.int .i64 s.least) (.int .i64 s.most) (.int .i64 s.load) (.int .i64 s.cool)
  av : AV W (w.heap.size + 3) (w.heap.size + 2) cs
theorem CA.later {w W W' : World} {v0 v1 v2 v3 : Value} {s : Sv} {cs : List Value} (h : CA w W v0 v1 v2 v3 s cs) (hb : Below W.heap.size W W') : CA w W' v0 v1 v2 v3 s cs :=
  ⟨blw_trans h.bel hb, h.bk.later hb, h.sv.later hb, h.av.later hb⟩

theorem repl_rest (K : SBk) (s : Sv) (M : List Nat) : (replAc K s M).want = 0 ∧ (replAc K s M).cool = 0 ∧ (replAc K s M).scale = false ∧ (replAc K s M).drop = false := by
  unfold replAc baseAc
  split
  · exact ⟨rfl, rfl, rfl, rfl⟩
  · split
    · exact ⟨rfl, rfl, rfl, rfl⟩
    · split <;> exact ⟨rfl, rfl, rfl, rfl⟩
theorem counter_rest (K : SBk) (s : Sv) : (counterAc K s).want = 0 ∧ (counterAc K s).cool = 0 ∧ (counterAc K s).scale = false ∧ (counterAc K s).drop = false := by
  unfold counterAc baseAc
  split
  · exact ⟨rfl, rfl, rfl, rfl⟩
  · split <;> exact ⟨rfl, rfl, rfl, rfl⟩
theorem countOf_le (K : SBk) (svc : ByteArray) : (countOf K svc).le K.cps.length := by
  unfold countOf
  split
  · exact cnTo_le _ _ _ _
  · exact ⟨⟨by simp [Cn.zero], by simp [Cn.zero]⟩, ⟨by simp [Cn.zero], by simp [Cn.zero]⟩, ⟨by simp [Cn.zero], by simp [Cn.zero]⟩, ⟨by simp [Cn.zero], by simp [Cn.zero]⟩, ⟨by simp [Cn.zero], by simp [Cn.zero]⟩⟩
theorem ends_len {W : World} {lo : Nat} {v : Value} {K : SBk} {M : List Nat} (h : W.ownsRow lo 114 2 v M.length ((endsOf K M).flatMap EnC)) : W.ownsRow lo 114 2 v (endsOf K M).length ((endsOf K M).flatMap EnC) := by
  have e : (endsOf K M).length = M.length := by simp [endsOf]
  rw [e]; exact h
theorem some_lt (K : SBk) (s : Sv) (k : Int) : ∀ z ∈ someOf K s k, z < K.cps.length := fun _ hz => (liveTo_lt _ _ _ _ (List.mem_filter.1 hz).1).1
theorem some_len (K : SBk) (s : Sv) (k : Int) : (someOf K s k).length ≤ K.cps.length := Nat.le_trans (List.length_filter_le _ _) (liveTo_len _ _ _)

def VRp (B : Nat) (K : SBk) (a0 a1 a2 : Option Addr) (c0 c1 c2 : Nat) (s : Sv) (kd : Int) (M : List Nat) (i : Nat) (u : Value) (W : World) : Prop :=
  match i with
  | 0 => u = .agg #[.int .i64 K.now, .slice a0 K.svcs.length c0, .slice a1 K.cps.length c1, .slice a2 K.bts.length c2]
  | 1 => u = .agg #[.string s.nm, .int .i64 s.ver, .bool s.gone, .int .i64 s.image, .int .i64 s.want, .int .i64 s.down, .int .i64 s.over, .int .i64 s.next, .int .i64 s.per, .int .i64 s.least, .int .i64 s.most, .int .i64 s.load, .int .i64 s.cool]
  | 2 => u = .agg #[.string s.nm, .int .i64 s.ver, .int .i64 0, .int .i64 0, .int .i64 0, .bool false, .slice none 0 0, .bool false]
  | 3 => u = .agg #[.int .i64 K.now, .slice a0 K.svcs.length c0, .slice a1 K.cps.length c1, .slice a2 K.bts.length c2]
  | 4 => u = .agg #[.string s.nm, .int .i64 s.ver, .bool s.gone, .int .i64 s.image, .int .i64 s.want, .int .i64 s.down, .int .i64 s.over, .int .i64 s.next, .int .i64 s.per, .int .i64 s.least, .int .i64 s.most, .int .i64 s.load, .int .i64 s.cool]
  | 5 => u = .int .i64 kd
  | 6 => W.ownsRow (B + 4) 3 1 u M.length (nums M)
  | 7 => ∃ va n vc, u = .agg #[.string s.nm, .int .i64 s.ver, .int .i64 (replAc K s M).create, .int .i64 0, .int .i64 0, .bool false, .slice va n vc, .bool false] ∧ W.ownsRow (B + 4) 114 2 (.slice va n vc) (replAc K s M).ends.length ((replAc K s M).ends.flatMap EnC)
  | _ => True
theorem VRp_mono (B : Nat) (K : SBk) (a0 a1 a2 : Option Addr) (c0 c1 c2 : Nat) (s : Sv) (kd : Int) (M : List Nat) : ∀ j u W W', Below W.heap.size W W' → VRp B K a0 a1 a2 c0 c1 c2 s kd M j u W → VRp B K a0 a1 a2 c0 c1 c2 s kd M j u W' := by
  intro j u W W' hb h
  match j, h with
  | 0, h => exact h
  | 1, h => exact h
  | 2, h => exact h
  | 3, h => exact h
  | 4, h => exact h
  | 5, h => exact h
  | 6, h => exact owns_later h hb
  | 7, h =>
    obtain ⟨va, n, vc, e, h0⟩ := h
    exact ⟨va, n, vc, e, owns_later h0 hb⟩
  | n + 8, _ => trivial
theorem VRp_sc (B : Nat) (K : SBk) (a0 a1 a2 : Option Addr) (c0 c1 c2 : Nat) (s : Sv) (kd : Int) (M : List Nat) : ∀ j u W o x, VRp B K a0 a1 a2 c0 c1 c2 s kd M j u W → VRp B K a0 a1 a2 c0 c1 c2 s kd M j u (W.setCell ⟨B + 2, o, none⟩ x) := by
  intro j u W o x h
  match j, h with
  | 0, h => exact h
  | 1, h => exact h
  | 2, h => exact h
  | 3, h => exact h
  | 4, h => exact h
  | 5, h => exact h
  | 6, h => exact owns_stc h (by omega) o x
  | 7, h =>
    obtain ⟨va, n, vc, e, h0⟩ := h
    exact ⟨va, n, vc, e, owns_stc h0 (by omega) o x⟩
  | n + 8, _ => trivial
theorem Tryz.infoAc8 : (Tryz.prog.info? 47).map (·.size) = some 8 := by kernel_rfl

set_option maxRecDepth 100000 in
set_option maxHeartbeats 40000000 in
theorem l16ActS (K : SBk) (a0 a1 a2 : Option Addr) (c0 c1 c2 : Nat) (kind : Int) (s : Sv) (w : World) (h : SBkV w a0 a1 a2 K) (hsn : Sane K) (hw0 : 0 ≤ s.want) (hw1 : s.want ≤ 1000) (ho0 : 0 ≤ s.over) (ho1 : s.over ≤ 1000) (hp1 : s.per ≤ 1000000) (hd0 : 0 ≤ s.load) (hd1 : s.load ≤ 1000000) (hq0 : 0 ≤ s.cool) (hq1 : s.cool ≤ 1000) :
    Calls Tryz.prog 17 #[.int .i64 kind, .agg #[.int .i64 K.now, .slice a0 K.svcs.length c0, .slice a1 K.cps.length c1, .slice a2 K.bts.length c2], .agg #[.string s.nm, .int .i64 s.ver, .bool s.gone, .int .i64 s.image, .int .i64 s.want, .int .i64 s.down, .int .i64 s.over, .int .i64 s.next, .int .i64 s.per, .int .i64 s.least, .int .i64 s.most, .int .i64 s.load, .int .i64 s.cool]] w fun e w' => (∃ va n vc, e = .returned (.agg #[.string s.nm, .int .i64 s.ver, .int .i64 (actAc kind K s).create, .int .i64 (actAc kind K s).want, .int .i64 (actAc kind K s).cool, .bool (actAc kind K s).scale, .slice va n vc, .bool (actAc kind K s).drop]) ∧ w'.ownsRow w.heap.size 114 2 (.slice va n vc) (actAc kind K s).ends.length ((actAc kind K s).ends.flatMap EnC)) ∧ Below w.heap.size w w' := by
  have HH : Hid (SBkV w a0 a1 a2 K) := h
  have HSN := hid hsn
  have hcc := hsn.cps
  have HZS : Hid (∀ k, ∀ z ∈ someOf K s k, z < K.cps.length) := some_lt K s
  have HLS : Hid (∀ k, (someOf K s k).length ≤ 1048576) := fun k => Nat.le_trans (some_len K s k) hcc
  clear h hsn
  obtain ⟨X, hX⟩ : ∃ X, X = actAc kind K s := ⟨_, rfl⟩
  have HX := hid hX
  rw [← hX]
  clear hX
  obtain ⟨wa, hwa⟩ : ∃ wa, wa = (((w.alloc (.cells #[.int .i64 K.now, .slice a0 K.svcs.length c0, .slice a1 K.cps.length c1, .slice a2 K.bts.length c2] 34)).alloc (.cells #[.string s.nm, .int .i64 s.ver, .bool s.gone, .int .i64 s.image, .int .i64 s.want, .int .i64 s.down, .int .i64 s.over, .int .i64 s.next, .int .i64 s.per, .int .i64 s.least, .int .i64 s.most, .int .i64 s.load, .int .i64 s.cool] 50)).alloc (.cells #[.string { data := #[] }, .int .i64 0, .int .i64 0, .int .i64 0, .int .i64 0, .bool false, .slice none 0 0, .bool false] 47)).alloc (.cells #[.string s.nm, .int .i64 s.ver, .int .i64 0, .int .i64 0, .int .i64 0, .bool false, .slice none 0 0, .bool false] 47) := ⟨_, rfl⟩
  have HI : Hid (CA w wa (.int .i64 K.now) (.slice a0 K.svcs.length c0) (.slice a1 K.cps.length c1) (.slice a2 K.bts.length c2) s [.string s.nm, .int .i64 s.ver, .int .i64 0, .int .i64 0, .int .i64 0, .bool false, .slice none 0 0, .bool false]) := by
    show CA _ _ _ _ _ _ _ _
    rw [hwa]
    refine ⟨blw_alloc (blw_alloc (blw_alloc (blw_alloc (Below.refl _ _) _) _) _) _, (((Box4.new' w _ _ _ _ _ _ rfl).past _).past _).past _, ((Box13.new' _ _ _ _ _ _ _ _ _ _ _ _ _ _ _ _  (by simp)).past _).past _, ?_⟩
    refine ⟨OwnBlk.alloc_at2 _ _ _ _ _ rfl (by simp), (OwnBlk.alloc_at2 _ _ _ _ _ rfl (by simp)).later (blw_alloc (Below.refl _ _) _), by omega, rfl, fun j hj => ?_⟩
    match j, hj with
    | 0, _ => exact World.cell?_alloc_at _ _ _ _ (by simp)
    | 1, _ => exact World.cell?_alloc_at _ _ _ _ (by simp)
    | 2, _ => exact World.cell?_alloc_at _ _ _ _ (by simp)
    | 3, _ => exact World.cell?_alloc_at _ _ _ _ (by simp)
    | 4, _ => exact World.cell?_alloc_at _ _ _ _ (by simp)
    | 5, _ => exact World.cell?_alloc_at _ _ _ _ (by simp)
    | 6, _ => exact World.cell?_alloc_at _ _ _ _ (by simp)
    | 7, _ => exact World.cell?_alloc_at _ _ _ _ (by simp)
  have HZ4 : Hid (w.heap.size + 4 ≤ wa.heap.size) := by show _ ≤ _; rw [hwa]; simp
  go_enter Tryz.func17, Tryz.ntmps17
  go_upto_region 2 with fail
  rw [← hwa]
  clear hwa
  obtain ⟨yz, y0, y1, y2, y3⟩ := HI.out.bk
  obtain ⟨sz, s0, s1, s2, s3, s4, s5, s6, s7, s8, s9, s10, s11, s12⟩ := HI.out.sv
  by_cases k3 : kind = 3
  · subst k3
    have HE : Hid (X = ⟨s.nm, s.ver, 0, 0, 0, false, endsOf K (someOf K s 3), false⟩) := by show X = _; rw [HX.out, actAc, if_pos rfl]
    clear HX
    obtain ⟨M, hM⟩ : ∃ M, M = someOf K s 3 := ⟨_, rfl⟩
    have HM : Hid (∀ W, SBkV W a0 a1 a2 K → Calls Tryz.prog 49 #[.agg #[.int .i64 K.now, .slice a0 K.svcs.length c0, .slice a1 K.cps.length c1, .slice a2 K.bts.length c2], .agg #[.string s.nm, .int .i64 s.ver, .bool s.gone, .int .i64 s.image, .int .i64 s.want, .int .i64 s.down, .int .i64 s.over, .int .i64 s.next, .int .i64 s.per, .int .i64 s.least, .int .i64 s.most, .int .i64 s.load, .int .i64 s.cool], .int .i64 3] W fun e w' => (∃ v, e = .returned v ∧ w'.ownsRow W.heap.size 3 1 v M.length (nums M)) ∧ Below W.heap.size W w') := fun W hW => by rw [hM]; exact l16SomeS K a0 a1 a2 c0 c1 c2 s 3 (by simp) W hW hcc
    have HZM : Hid (∀ z ∈ M, z < K.cps.length) := by rw [hM]; exact HZS.out 3
    have hlm : M.length ≤ 1048576 := by rw [hM]; exact HLS.out 3
    rw [← hM] at HE
    clear hM HZS HLS
    have v6 := HI.out.av.at_ 6 _ rfl (by omega)
    have vz := HI.out.av.a.lt
    have hfz := HI.out.av.a.frozen
    have hsa : w.heap.size + 3 < wa.heap.size := HI.out.av.a.lt
    have hd1 : w.heap.size + 3 < wa.drew.heap.size := by show _ < wa.heap.size; omega
    go_upto_region 3 with fail
    go_region_held (fun w' => w'.cell? ⟨w.heap.size, 0, none⟩ = some (.int .i64 K.now) ∧ w'.cell? ⟨w.heap.size, 1, none⟩ = some (.slice a0 K.svcs.length c0) ∧ w'.cell? ⟨w.heap.size, 2, none⟩ = some (.slice a1 K.cps.length c1) ∧ w'.cell? ⟨w.heap.size, 3, none⟩ = some (.slice a2 K.bts.length c2) ∧ w'.cell? ⟨w.heap.size + 1, 0, none⟩ = some (.string s.nm) ∧ w'.cell? ⟨w.heap.size + 1, 1, none⟩ = some (.int .i64 s.ver) ∧ w'.cell? ⟨w.heap.size + 1, 2, none⟩ = some (.bool s.gone) ∧ w'.cell? ⟨w.heap.size + 1, 3, none⟩ = some (.int .i64 s.image) ∧ w'.cell? ⟨w.heap.size + 1, 4, none⟩ = some (.int .i64 s.want) ∧ w'.cell? ⟨w.heap.size + 1, 5, none⟩ = some (.int .i64 s.down) ∧ w'.cell? ⟨w.heap.size + 1, 6, none⟩ = some (.int .i64 s.over) ∧ w'.cell? ⟨w.heap.size + 1, 7, none⟩ = some (.int .i64 s.next) ∧ w'.cell? ⟨w.heap.size + 1, 8, none⟩ = some (.int .i64 s.per) ∧ w'.cell? ⟨w.heap.size + 1, 9, none⟩ = some (.int .i64 s.least) ∧ w'.cell? ⟨w.heap.size + 1, 10, none⟩ = some (.int .i64 s.most) ∧ w'.cell? ⟨w.heap.size + 1, 11, none⟩ = some (.int .i64 s.load) ∧ w'.cell? ⟨w.heap.size + 1, 12, none⟩ = some (.int .i64 s.cool))
      (first
        | exact ⟨(sc_ne _ _ _ _ _ _ (Or.inl (by omega))).trans HI3.out.bk.x0, (sc_ne _ _ _ _ _ _ (Or.inl (by omega))).trans HI3.out.bk.x1, (sc_ne _ _ _ _ _ _ (Or.inl (by omega))).trans HI3.out.bk.x2, (sc_ne _ _ _ _ _ _ (Or.inl (by omega))).trans HI3.out.bk.x3, (sc_ne _ _ _ _ _ _ (Or.inl (by omega))).trans HI3.out.sv.x0, (sc_ne _ _ _ _ _ _ (Or.inl (by omega))).trans HI3.out.sv.x1, (sc_ne _ _ _ _ _ _ (Or.inl (by omega))).trans HI3.out.sv.x2, (sc_ne _ _ _ _ _ _ (Or.inl (by omega))).trans HI3.out.sv.x3, (sc_ne _ _ _ _ _ _ (Or.inl (by omega))).trans HI3.out.sv.x4, (sc_ne _ _ _ _ _ _ (Or.inl (by omega))).trans HI3.out.sv.x5, (sc_ne _ _ _ _ _ _ (Or.inl (by omega))).trans HI3.out.sv.x6, (sc_ne _ _ _ _ _ _ (Or.inl (by omega))).trans HI3.out.sv.x7, (sc_ne _ _ _ _ _ _ (Or.inl (by omega))).trans HI3.out.sv.x8, (sc_ne _ _ _ _ _ _ (Or.inl (by omega))).trans HI3.out.sv.x9, (sc_ne _ _ _ _ _ _ (Or.inl (by omega))).trans HI3.out.sv.x10, (sc_ne _ _ _ _ _ _ (Or.inl (by omega))).trans HI3.out.sv.x11, (sc_ne _ _ _ _ _ _ (Or.inl (by omega))).trans HI3.out.sv.x12⟩
        | (go_keep; done)
        | ((try go_split_ands)
           refine ⟨?_, ?_, ?_, ?_, ?_, ?_, ?_, ?_, ?_, ?_, ?_, ?_, ?_, ?_, ?_, ?_, ?_⟩ <;> first
             | (refine (sc_ne _ _ _ _ _ _ ?_).trans ?_; (exact Or.inl (by omega)); assumption)
             | (refine (hb3.cell ?_).trans ?_; (dsimp only; omega); assumption)
             | (refine (hb2.cell ?_).trans ?_; (dsimp only; omega); assumption)))
      (first
        | (go_at_call 49
           refine (HM.out wa.drew (HH.out.later (Below.drew HI.out.bel))).mono ?_
           rintro e w2 ⟨⟨u2, rfl, hown2⟩, hb2⟩
           obtain ⟨a2', k2', hv2⟩ := owns_slice hown2
           subst hv2
           have hs2 := hb2.size)
        | (go_at_call 48
           refine (l16EndsS K a0 a1 a2 c0 c1 c2 (M) a2' k2' wa.drew.heap.size w2 (HH.out.later (blw_trans (Below.drew HI.out.bel) hb2)) hown2 HZM.out hlm).mono ?_
           rintro e w3 ⟨⟨u3, rfl, hown3⟩, hb3⟩
           obtain ⟨a3', k3', hv3⟩ := owns_slice hown3
           subst hv3
           have hs3 := hb3.size
           have HI3 := hid (((HI.out.later (Below.drew (Below.refl _ _))).later hb2).later hb3)
           have v6' := HI3.out.av.at_ 6 _ rfl (by omega)
           have vz' := HI3.out.av.a.lt
           have hfz' := HI3.out.av.a.frozen))
    obtain ⟨w7, hw7⟩ : ∃ w7, w7 = w3.setCell ⟨w.heap.size + 3, 6, none⟩ (.slice a3' (M).length k3') := ⟨_, rfl⟩
    have HI7 : Hid (CA w w7 (.int .i64 K.now) (.slice a0 K.svcs.length c0) (.slice a1 K.cps.length c1) (.slice a2 K.bts.length c2) s [.string s.nm, .int .i64 s.ver, .int .i64 0, .int .i64 0, .int .i64 0, .bool false, .slice a3' (M).length k3', .bool false]) := by
      show CA _ _ _ _ _ _ _ _
      rw [hw7]
      refine ⟨HI3.out.bel.setCell (p := ⟨w.heap.size + 3, 6, none⟩) (by show w.heap.size ≤ w.heap.size + 3; omega) _, ⟨by rw [sc_size]; exact HI3.out.bk.lt, (sc_ne _ _ _ _ _ _ (Or.inl (by omega))).trans HI3.out.bk.x0, (sc_ne _ _ _ _ _ _ (Or.inl (by omega))).trans HI3.out.bk.x1, (sc_ne _ _ _ _ _ _ (Or.inl (by omega))).trans HI3.out.bk.x2, (sc_ne _ _ _ _ _ _ (Or.inl (by omega))).trans HI3.out.bk.x3⟩, ⟨by rw [sc_size]; exact HI3.out.sv.lt, (sc_ne _ _ _ _ _ _ (Or.inl (by omega))).trans HI3.out.sv.x0, (sc_ne _ _ _ _ _ _ (Or.inl (by omega))).trans HI3.out.sv.x1, (sc_ne _ _ _ _ _ _ (Or.inl (by omega))).trans HI3.out.sv.x2, (sc_ne _ _ _ _ _ _ (Or.inl (by omega))).trans HI3.out.sv.x3, (sc_ne _ _ _ _ _ _ (Or.inl (by omega))).trans HI3.out.sv.x4, (sc_ne _ _ _ _ _ _ (Or.inl (by omega))).trans HI3.out.sv.x5, (sc_ne _ _ _ _ _ _ (Or.inl (by omega))).trans HI3.out.sv.x6, (sc_ne _ _ _ _ _ _ (Or.inl (by omega))).trans HI3.out.sv.x7, (sc_ne _ _ _ _ _ _ (Or.inl (by omega))).trans HI3.out.sv.x8, (sc_ne _ _ _ _ _ _ (Or.inl (by omega))).trans HI3.out.sv.x9, (sc_ne _ _ _ _ _ _ (Or.inl (by omega))).trans HI3.out.sv.x10, (sc_ne _ _ _ _ _ _ (Or.inl (by omega))).trans HI3.out.sv.x11, (sc_ne _ _ _ _ _ _ (Or.inl (by omega))).trans HI3.out.sv.x12⟩, HI3.out.av.sc 6 (by omega) _⟩
    have HO7 : Hid (w7.ownsRow (w.heap.size + 4) 114 2 (.slice a3' (M).length k3') (M).length ((endsOf K (M)).flatMap EnC)) := by show World.ownsRow _ _ _ _ _ _ _; rw [hw7]; exact owns_base (owns_stc hown3 (by omega) _ _) (by omega)
    rw [← hw7]
    clear hw7 v6' vz' hfz' HI3 hown3 hown2 hb2 hb3 hs2 hs3 v6 vz hfz hd1 hsa yz y0 y1 y2 y3 sz s0 s1 s2 s3 s4 s5 s6 s7 s8 s9 s10 s11 s12 HI
    go_upto_region 4 with fail
    have HVf := hid HI7.out.av
    have hrg := HVf.out.range
    have hth := RY.own_there HVf.out.r
    have hrt : World.rangeAt (w7.setCells (w.heap.size + 2) 0 [.string s.nm, .int .i64 s.ver, .int .i64 0, .int .i64 0, .int .i64 0, .bool false, .slice a3' M.length k3', .bool false]) (w.heap.size + 2) 0 [.string s.nm, .int .i64 s.ver, .int .i64 0, .int .i64 0, .int .i64 0, .bool false, .slice a3' M.length k3', .bool false] := World.rangeAt_setCells_same _ _ _ _ hth
    refine wp_region_lit ?_
    refine wpList_load_mid rfl 47 _ rfl (w.heap.size + 3) 0 rfl [.string s.nm, .int .i64 s.ver, .int .i64 0, .int .i64 0, .int .i64 0, .bool false, .slice a3' M.length k3', .bool false] _ hrg Tryz.underlying47 rfl (by kernel_rfl) ?_
    refine wpList_store_mid rfl 47 _ _ rfl (w.heap.size + 2) 0 #[.string s.nm, .int .i64 s.ver, .int .i64 0, .int .i64 0, .int .i64 0, .bool false, .slice a3' M.length k3', .bool false] rfl rfl hth (by kernel_rfl) (by simp [Value.oneCell']) ?_
    simp only [Act.put, List.setIfInBounds_toArray, List.set_cons_zero, List.set_cons_succ]
    go_wp2
    refine bodyPost_ret (v := .agg #[.string s.nm, .int .i64 s.ver, .int .i64 0, .int .i64 0, .int .i64 0, .bool false, .slice a3' M.length k3', .bool false]) (by simp [results, Tryz.results17, asAddr, run_loadVar_mid (P := Tryz.prog) _ _ _ 47 [.string s.nm, .int .i64 s.ver, .int .i64 0, .int .i64 0, .int .i64 0, .bool false, .slice a3' M.length k3', .bool false] _ hrt Tryz.underlying47 rfl (by kernel_rfl)]) rfl ?_
    rw [HE.out]
    exact ⟨⟨_, _, _, rfl, owns_base (owns_scs (by omega) _ _ _ (ends_len HO7.out)) (by omega)⟩, setCells_below HI7.out.bel (by omega) _ _⟩
  have k3' : (kind == 3) = false := by simp [k3]
  by_cases kg : s.gone = true
  · rw [kg] at s2
    by_cases k5 : kind = 5
    · subst k5
      have HE : Hid (X = ⟨s.nm, s.ver, 0, 0, 0, false, endsOf K (liveOf K s.nm), decide ((countOf K s.nm).live + (countOf K s.nm).ending = 0)⟩) := by show X = _; rw [HX.out, actAc, if_neg (by decide), if_pos kg, if_pos rfl]
      clear HX k3 k3'
      have KG := hid kg
      clear kg
      obtain ⟨M, hM⟩ : ∃ M, M = liveOf K s.nm := ⟨_, rfl⟩
      have HM : Hid (∀ W, SBkV W a0 a1 a2 K → Calls Tryz.prog 50 #[.agg #[.int .i64 K.now, .slice a0 K.svcs.length c0, .slice a1 K.cps.length c1, .slice a2 K.bts.length c2], .string s.nm] W fun e w' => (∃ v, e = .returned v ∧ w'.ownsRow W.heap.size 3 1 v M.length (nums M)) ∧ Below W.heap.size W w') := fun W hW => by rw [hM]; exact l16LiveS K a0 a1 a2 c0 c1 c2 s.nm W hW hcc
      have HZM : Hid (∀ z ∈ M, z < K.cps.length) := by rw [hM]; exact fun z hz => (liveTo_lt _ _ _ _ hz).1
      have hlm : M.length ≤ 1048576 := by rw [hM]; exact Nat.le_trans (liveTo_len _ _ _) hcc
      rw [← hM] at HE
      clear hM HZS HLS
      clear s2
      have s2 := HI.out.sv.x2
      rw [KG.out] at s2
      go_upto_region 7 with fail
      clear s2
      have s2 := HI.out.sv.x2
      have v6 := HI.out.av.at_ 6 _ rfl (by omega)
      have vz := HI.out.av.a.lt
      have hfz := HI.out.av.a.frozen
      have hsa : w.heap.size + 3 < wa.heap.size := HI.out.av.a.lt
      have hd1 : w.heap.size + 3 < wa.drew.heap.size := by show _ < wa.heap.size; omega
      go_region_held (fun w' => w'.cell? ⟨w.heap.size, 0, none⟩ = some (.int .i64 K.now) ∧ w'.cell? ⟨w.heap.size, 1, none⟩ = some (.slice a0 K.svcs.length c0) ∧ w'.cell? ⟨w.heap.size, 2, none⟩ = some (.slice a1 K.cps.length c1) ∧ w'.cell? ⟨w.heap.size, 3, none⟩ = some (.slice a2 K.bts.length c2) ∧ w'.cell? ⟨w.heap.size + 1, 0, none⟩ = some (.string s.nm) ∧ w'.cell? ⟨w.heap.size + 1, 1, none⟩ = some (.int .i64 s.ver) ∧ w'.cell? ⟨w.heap.size + 1, 2, none⟩ = some (.bool s.gone) ∧ w'.cell? ⟨w.heap.size + 1, 3, none⟩ = some (.int .i64 s.image) ∧ w'.cell? ⟨w.heap.size + 1, 4, none⟩ = some (.int .i64 s.want) ∧ w'.cell? ⟨w.heap.size + 1, 5, none⟩ = some (.int .i64 s.down) ∧ w'.cell? ⟨w.heap.size + 1, 6, none⟩ = some (.int .i64 s.over) ∧ w'.cell? ⟨w.heap.size + 1, 7, none⟩ = some (.int .i64 s.next) ∧ w'.cell? ⟨w.heap.size + 1, 8, none⟩ = some (.int .i64 s.per) ∧ w'.cell? ⟨w.heap.size + 1, 9, none⟩ = some (.int .i64 s.least) ∧ w'.cell? ⟨w.heap.size + 1, 10, none⟩ = some (.int .i64 s.most) ∧ w'.cell? ⟨w.heap.size + 1, 11, none⟩ = some (.int .i64 s.load) ∧ w'.cell? ⟨w.heap.size + 1, 12, none⟩ = some (.int .i64 s.cool))
        (first
          | exact ⟨(sc_ne _ _ _ _ _ _ (Or.inl (by omega))).trans HI3.out.bk.x0, (sc_ne _ _ _ _ _ _ (Or.inl (by omega))).trans HI3.out.bk.x1, (sc_ne _ _ _ _ _ _ (Or.inl (by omega))).trans HI3.out.bk.x2, (sc_ne _ _ _ _ _ _ (Or.inl (by omega))).trans HI3.out.bk.x3, (sc_ne _ _ _ _ _ _ (Or.inl (by omega))).trans HI3.out.sv.x0, (sc_ne _ _ _ _ _ _ (Or.inl (by omega))).trans HI3.out.sv.x1, (sc_ne _ _ _ _ _ _ (Or.inl (by omega))).trans HI3.out.sv.x2, (sc_ne _ _ _ _ _ _ (Or.inl (by omega))).trans HI3.out.sv.x3, (sc_ne _ _ _ _ _ _ (Or.inl (by omega))).trans HI3.out.sv.x4, (sc_ne _ _ _ _ _ _ (Or.inl (by omega))).trans HI3.out.sv.x5, (sc_ne _ _ _ _ _ _ (Or.inl (by omega))).trans HI3.out.sv.x6, (sc_ne _ _ _ _ _ _ (Or.inl (by omega))).trans HI3.out.sv.x7, (sc_ne _ _ _ _ _ _ (Or.inl (by omega))).trans HI3.out.sv.x8, (sc_ne _ _ _ _ _ _ (Or.inl (by omega))).trans HI3.out.sv.x9, (sc_ne _ _ _ _ _ _ (Or.inl (by omega))).trans HI3.out.sv.x10, (sc_ne _ _ _ _ _ _ (Or.inl (by omega))).trans HI3.out.sv.x11, (sc_ne _ _ _ _ _ _ (Or.inl (by omega))).trans HI3.out.sv.x12⟩
          | (go_keep; done)
          | ((try go_split_ands)
             refine ⟨?_, ?_, ?_, ?_, ?_, ?_, ?_, ?_, ?_, ?_, ?_, ?_, ?_, ?_, ?_, ?_, ?_⟩ <;> first
               | (refine (sc_ne _ _ _ _ _ _ ?_).trans ?_; (exact Or.inl (by omega)); assumption)
               | (refine (hb3.cell ?_).trans ?_; (dsimp only; omega); assumption)
               | (refine (hb2.cell ?_).trans ?_; (dsimp only; omega); assumption)))
        (first
          | (go_at_call 50
             refine (HM.out wa.drew (HH.out.later (Below.drew HI.out.bel))).mono ?_
             rintro e w2 ⟨⟨u2, rfl, hown2⟩, hb2⟩
             obtain ⟨a2', k2', hv2⟩ := owns_slice hown2
             subst hv2
             have hs2 := hb2.size)
          | (go_at_call 48
             refine (l16EndsS K a0 a1 a2 c0 c1 c2 (M) a2' k2' wa.drew.heap.size w2 (HH.out.later (blw_trans (Below.drew HI.out.bel) hb2)) hown2 HZM.out hlm).mono ?_
             rintro e w3 ⟨⟨u3, rfl, hown3⟩, hb3⟩
             obtain ⟨a3', k3', hv3⟩ := owns_slice hown3
             subst hv3
             have hs3 := hb3.size
             have HI3 := hid (((HI.out.later (Below.drew (Below.refl _ _))).later hb2).later hb3)
             have v6' := HI3.out.av.at_ 6 _ rfl (by omega)
             have vz' := HI3.out.av.a.lt
             have hfz' := HI3.out.av.a.frozen))
      obtain ⟨w7, hw7⟩ : ∃ w7, w7 = w3.setCell ⟨w.heap.size + 3, 6, none⟩ (.slice a3' (M).length k3') := ⟨_, rfl⟩
      have HI7 : Hid (CA w w7 (.int .i64 K.now) (.slice a0 K.svcs.length c0) (.slice a1 K.cps.length c1) (.slice a2 K.bts.length c2) s [.string s.nm, .int .i64 s.ver, .int .i64 0, .int .i64 0, .int .i64 0, .bool false, .slice a3' (M).length k3', .bool false]) := by
        show CA _ _ _ _ _ _ _ _
        rw [hw7]
        refine ⟨HI3.out.bel.setCell (p := ⟨w.heap.size + 3, 6, none⟩) (by show w.heap.size ≤ w.heap.size + 3; omega) _, ⟨by rw [sc_size]; exact HI3.out.bk.lt, (sc_ne _ _ _ _ _ _ (Or.inl (by omega))).trans HI3.out.bk.x0, (sc_ne _ _ _ _ _ _ (Or.inl (by omega))).trans HI3.out.bk.x1, (sc_ne _ _ _ _ _ _ (Or.inl (by omega))).trans HI3.out.bk.x2, (sc_ne _ _ _ _ _ _ (Or.inl (by omega))).trans HI3.out.bk.x3⟩, ⟨by rw [sc_size]; exact HI3.out.sv.lt, (sc_ne _ _ _ _ _ _ (Or.inl (by omega))).trans HI3.out.sv.x0, (sc_ne _ _ _ _ _ _ (Or.inl (by omega))).trans HI3.out.sv.x1, (sc_ne _ _ _ _ _ _ (Or.inl (by omega))).trans HI3.out.sv.x2, (sc_ne _ _ _ _ _ _ (Or.inl (by omega))).trans HI3.out.sv.x3, (sc_ne _ _ _ _ _ _ (Or.inl (by omega))).trans HI3.out.sv.x4, (sc_ne _ _ _ _ _ _ (Or.inl (by omega))).trans HI3.out.sv.x5, (sc_ne _ _ _ _ _ _ (Or.inl (by omega))).trans HI3.out.sv.x6, (sc_ne _ _ _ _ _ _ (Or.inl (by omega))).trans HI3.out.sv.x7, (sc_ne _ _ _ _ _ _ (Or.inl (by omega))).trans HI3.out.sv.x8, (sc_ne _ _ _ _ _ _ (Or.inl (by omega))).trans HI3.out.sv.x9, (sc_ne _ _ _ _ _ _ (Or.inl (by omega))).trans HI3.out.sv.x10, (sc_ne _ _ _ _ _ _ (Or.inl (by omega))).trans HI3.out.sv.x11, (sc_ne _ _ _ _ _ _ (Or.inl (by omega))).trans HI3.out.sv.x12⟩, HI3.out.av.sc 6 (by omega) _⟩
      have HO7 : Hid (w7.ownsRow (w.heap.size + 4) 114 2 (.slice a3' (M).length k3') (M).length ((endsOf K (M)).flatMap EnC)) := by show World.ownsRow _ _ _ _ _ _ _; rw [hw7]; exact owns_base (owns_stc hown3 (by omega) _ _) (by omega)
      rw [← hw7]
      clear hw7 v6' vz' hfz' HI3 hown3 hown2 hb2 hb3 hs2 hs3 v6 vz hfz hd1 hsa yz y0 y1 y2 y3 sz s0 s1 s2 s3 s4 s5 s6 s7 s8 s9 s10 s11 s12 HI
      obtain ⟨yz, y0, y1, y2, y3⟩ := HI7.out.bk
      obtain ⟨sz, s0, s1, s2, s3, s4, s5, s6, s7, s8, s9, s10, s11, s12⟩ := HI7.out.sv
      go_wp2_with fail
      refine (l13CountS K a0 a1 a2 c0 c1 c2 s.nm w7 (HH.out.later HI7.out.bel) hcc).mono ?_
      rintro e w8 ⟨rfl, hb8⟩
      obtain ⟨n, hn⟩ : ∃ n, n = countOf K s.nm := ⟨_, rfl⟩
      have hle := countOf_le K s.nm
      rw [← hn] at HE hle ⊢
      clear hn
      obtain ⟨⟨m0, m1⟩, _, _, _, ⟨m8, m9⟩⟩ := hle
      obtain ⟨w9, hw9⟩ : ∃ w9, w9 = w8.alloc (.cells #[.int .i64 n.live, .int .i64 n.ready, .int .i64 n.old, .int .i64 n.failed, .int .i64 n.ending] 56) := ⟨_, rfl⟩
      have hb9 : Below w7.heap.size w7 w9 := by rw [hw9]; exact blw_trans hb8 (blw_alloc (Below.refl _ _) _)
      have HI9 := hid (HI7.out.later hb9)
      have HO9 := hid (owns_later HO7.out hb9)
      obtain ⟨p8, hp8⟩ : ∃ p8, p8 = w8.heap.size := ⟨_, rfl⟩
      have t0 : w9.cell? ⟨p8, 0, none⟩ = some (.int .i64 n.live) := by rw [hw9, hp8]; exact World.cell?_alloc_at _ _ _ _ (by simp)
      have t4 : w9.cell? ⟨p8, 4, none⟩ = some (.int .i64 n.ending) := by rw [hw9, hp8]; exact World.cell?_alloc_at _ _ _ _ (by simp)
      have tz : p8 < w9.heap.size := by rw [hw9, hp8]; simp
      go_upto_region 9 with fail
      rw [← hw9, ← hp8]
      clear hw9 hp8 hb9 hb8 yz y0 y1 y2 y3 sz s0 s1 s2 s3 s4 s5 s6 s7 s8 s9 s10 s11 s12 HI7 HO7
      have v7 := HI9.out.av.at_ 7 _ rfl (by omega)
      have vz := HI9.out.av.a.lt
      have hfz := HI9.out.av.a.frozen
      obtain ⟨q, hq⟩ : ∃ q, q = (n.live + n.ending == 0) := ⟨_, rfl⟩
      have HQ : Hid (decide (n.live + n.ending = 0) = q) := by show _ = _; rw [hq]; rfl
      obtain ⟨wx, hwx⟩ : ∃ wx, wx = w9.setCell ⟨w.heap.size + 3, 7, none⟩ (.bool q) := ⟨_, rfl⟩
      have HBx : Hid (Below w.heap.size w wx) := by show Below _ _ _; rw [hwx]; exact HI9.out.bel.setCell (p := ⟨w.heap.size + 3, 7, none⟩) (by show w.heap.size ≤ w.heap.size + 3; omega) _
      have HVx : Hid (AV wx (w.heap.size + 3) (w.heap.size + 2) [.string s.nm, .int .i64 s.ver, .int .i64 0, .int .i64 0, .int .i64 0, .bool false, .slice a3' M.length k3', .bool q]) := by show AV _ _ _ _; rw [hwx]; exact HI9.out.av.sc 7 (by omega) _
      have HOx : Hid (wx.ownsRow (w.heap.size + 4) 114 2 (.slice a3' M.length k3') M.length ((endsOf K M).flatMap EnC)) := by show World.ownsRow _ _ _ _ _ _ _; rw [hwx]; exact owns_stc HO9.out (by omega) _ _
      rw [HQ.out] at HE
      have hq' : (n.live + n.ending == 0) = q := hq.symm
      clear hq HQ
      go_upto_region 10 with fail
      rw [← hwx]
      clear hwx v7 vz hfz t0 t4 tz HI9 HO9
      have hrg := HVx.out.range
      have hth := RY.own_there HVx.out.r
      have hrt : World.rangeAt (wx.setCells (w.heap.size + 2) 0 [.string s.nm, .int .i64 s.ver, .int .i64 0, .int .i64 0, .int .i64 0, .bool false, .slice a3' M.length k3', .bool q]) (w.heap.size + 2) 0 [.string s.nm, .int .i64 s.ver, .int .i64 0, .int .i64 0, .int .i64 0, .bool false, .slice a3' M.length k3', .bool q] := World.rangeAt_setCells_same _ _ _ _ hth
      refine wp_region_lit ?_
      refine wpList_load_mid rfl 47 _ rfl (w.heap.size + 3) 0 rfl [.string s.nm, .int .i64 s.ver, .int .i64 0, .int .i64 0, .int .i64 0, .bool false, .slice a3' M.length k3', .bool q] _ hrg Tryz.underlying47 rfl (by kernel_rfl) ?_
      refine wpList_store_mid rfl 47 _ _ rfl (w.heap.size + 2) 0 #[.string s.nm, .int .i64 s.ver, .int .i64 0, .int .i64 0, .int .i64 0, .bool false, .slice a3' M.length k3', .bool q] rfl rfl hth (by kernel_rfl) (by simp [Value.oneCell']) ?_
      simp only [Act.put, List.setIfInBounds_toArray, List.set_cons_zero, List.set_cons_succ]
      go_wp2
      refine bodyPost_ret (v := .agg #[.string s.nm, .int .i64 s.ver, .int .i64 0, .int .i64 0, .int .i64 0, .bool false, .slice a3' M.length k3', .bool q]) (by simp [results, Tryz.results17, asAddr, run_loadVar_mid (P := Tryz.prog) _ _ _ 47 [.string s.nm, .int .i64 s.ver, .int .i64 0, .int .i64 0, .int .i64 0, .bool false, .slice a3' M.length k3', .bool q] _ hrt Tryz.underlying47 rfl (by kernel_rfl)]) rfl ?_
      rw [HE.out]
      exact ⟨⟨_, _, _, rfl, owns_base (owns_scs (by omega) _ _ _ (ends_len HOx.out)) (by omega)⟩, setCells_below HBx.out (by omega) _ _⟩
    · have k5' : (kind == 5) = false := by simp [k5]
      have HE : Hid (X = baseAc s) := by show X = _; rw [HX.out, actAc, if_neg k3, if_pos kg, if_neg k5]
      clear HX kg
      go_upto_region 10 with fail
      have HVf := hid HI.out.av
      have hrg := HVf.out.range
      have hth := RY.own_there HVf.out.r
      have hrt : World.rangeAt (wa.setCells (w.heap.size + 2) 0 [.string s.nm, .int .i64 s.ver, .int .i64 0, .int .i64 0, .int .i64 0, .bool false, .slice none 0 0, .bool false]) (w.heap.size + 2) 0 [.string s.nm, .int .i64 s.ver, .int .i64 0, .int .i64 0, .int .i64 0, .bool false, .slice none 0 0, .bool false] := World.rangeAt_setCells_same _ _ _ _ hth
      refine wp_region_lit ?_
      refine wpList_load_mid rfl 47 _ rfl (w.heap.size + 3) 0 rfl [.string s.nm, .int .i64 s.ver, .int .i64 0, .int .i64 0, .int .i64 0, .bool false, .slice none 0 0, .bool false] _ hrg Tryz.underlying47 rfl (by kernel_rfl) ?_
      refine wpList_store_mid rfl 47 _ _ rfl (w.heap.size + 2) 0 #[.string s.nm, .int .i64 s.ver, .int .i64 0, .int .i64 0, .int .i64 0, .bool false, .slice none 0 0, .bool false] rfl rfl hth (by kernel_rfl) (by simp [Value.oneCell']) ?_
      simp only [Act.put, List.setIfInBounds_toArray, List.set_cons_zero, List.set_cons_succ]
      go_wp2
      refine bodyPost_ret (v := .agg #[.string s.nm, .int .i64 s.ver, .int .i64 0, .int .i64 0, .int .i64 0, .bool false, .slice none 0 0, .bool false]) (by simp [results, Tryz.results17, asAddr, run_loadVar_mid (P := Tryz.prog) _ _ _ 47 [.string s.nm, .int .i64 s.ver, .int .i64 0, .int .i64 0, .int .i64 0, .bool false, .slice none 0 0, .bool false] _ hrt Tryz.underlying47 rfl (by kernel_rfl)]) rfl ?_
      rw [HE.out]
      exact ⟨⟨_, _, _, rfl, owns_nil _ _ _ _⟩, setCells_below HI.out.bel (by omega) _ _⟩
  have kg' : s.gone = false := by simpa using kg
  rw [kg'] at s2
  have hA : actAc kind K s = if kind = 1 then counterAc K s else if kind = 2 then replAc K s (someOf K s 2) else if kind = 6 then (if (someOf K s 2).length = 0 then replAc K s (someOf K s 6) else baseAc s) else if kind = 4 then (if 0 < s.per then scalAc s else baseAc s) else baseAc s := by rw [actAc, if_neg k3, if_neg kg]
  rw [hA] at HX
  clear hA kg kg'
  go_upto_region 11 with fail
  clear s2
  have s2 := HI.out.sv.x2
  by_cases k1 : kind = 1
  · subst k1
    have HE : Hid (X = counterAc K s) := by show X = _; rw [HX.out, if_pos rfl]
    clear HX
    have v := fun j => HI.out.av.cel j
    have v0 := HI.out.av.at_ 0 _ rfl (by omega)
    have v1 := HI.out.av.at_ 1 _ rfl (by omega)
    have v2 := HI.out.av.at_ 2 _ rfl (by omega)
    have v3 := HI.out.av.at_ 3 _ rfl (by omega)
    have v4 := HI.out.av.at_ 4 _ rfl (by omega)
    have v5 := HI.out.av.at_ 5 _ rfl (by omega)
    have v6 := HI.out.av.at_ 6 _ rfl (by omega)
    have v7 := HI.out.av.at_ 7 _ rfl (by omega)
    have vz := HI.out.av.a.lt
    clear v
    go_wp2_with fail
    refine (l16CounterS K a0 a1 a2 c0 c1 c2 s wa (HH.out.later HI.out.bel) HSN.out hw0 hw1 ho0 ho1).mono ?_
    rintro e w1 ⟨⟨va, vn, vc, rfl, hro⟩, hb⟩
    have HI1 := hid (HI.out.later hb)
    have HB1 := hid HI1.out.bel
    have HO2 := hid HI1.out.av.r
    have HRO := hid hro
    have hz4 := HZ4.out
    clear hb hro v0 v1 v2 v3 v4 v5 v6 v7 vz yz y0 y1 y2 y3 sz s0 s1 s2 s3 s4 s5 s6 s7 s8 s9 s10 s11 s12
    obtain ⟨r0, r1, r2, r3⟩ := counter_rest K s
    have hth := RY.own_there HO2.out
    have hrt : World.rangeAt (w1.setCells (w.heap.size + 2) 0 [.string s.nm, .int .i64 s.ver, .int .i64 (counterAc K s).create, .int .i64 0, .int .i64 0, .bool false, .slice va vn vc, .bool false]) (w.heap.size + 2) 0 [.string s.nm, .int .i64 s.ver, .int .i64 (counterAc K s).create, .int .i64 0, .int .i64 0, .bool false, .slice va vn vc, .bool false] := World.rangeAt_setCells_same _ _ _ _ hth
    dsimp only
    refine (‹∀ (a : Act) (w : World), wpList Tryz.prog _ _ _ a w → _›) _ _ ?_
    refine wpList_store_mid rfl 47 _ _ rfl (w.heap.size + 2) 0 #[.string s.nm, .int .i64 s.ver, .int .i64 (counterAc K s).create, .int .i64 0, .int .i64 0, .bool false, .slice va vn vc, .bool false] rfl rfl hth (by kernel_rfl) (by simp [Value.oneCell']) ?_
    simp only [Act.put]
    go_wp2
    refine bodyPost_ret (v := .agg #[.string s.nm, .int .i64 s.ver, .int .i64 (counterAc K s).create, .int .i64 0, .int .i64 0, .bool false, .slice va vn vc, .bool false]) (by simp [results, Tryz.results17, asAddr, run_loadVar_mid (P := Tryz.prog) _ _ _ 47 [.string s.nm, .int .i64 s.ver, .int .i64 (counterAc K s).create, .int .i64 0, .int .i64 0, .bool false, .slice va vn vc, .bool false] _ hrt Tryz.underlying47 rfl (by kernel_rfl)]) rfl ?_
    rw [HE.out, r0, r1, r2, r3]
    exact ⟨⟨_, _, _, rfl, owns_base (owns_scs (by omega) _ _ _ HRO.out) (by omega)⟩, setCells_below HB1.out (by omega) _ _⟩
  have k1' : (kind == 1) = false := by simp [k1]
  rw [if_neg k1] at HX
  by_cases k2 : kind = 2
  · subst k2
    have HE : Hid (X = replAc K s (someOf K s 2)) := by show X = _; rw [HX.out, if_pos rfl]
    clear HX
    have HO2 : Hid (OwnBlk wa (w.heap.size + 2) 47 8) := HI.out.av.r
    have hz4 : w.heap.size + 4 ≤ wa.heap.size := HZ4.out
    go_upto_region 15 with fail
    refine RY.region_put (VRp w.heap.size K a0 a1 a2 c0 c1 c2 s 2 (someOf K s 2)) (VRp_mono w.heap.size K a0 a1 a2 c0 c1 c2 s 2 (someOf K s 2)) 7 8 63 6 47 8 (w.heap.size + 2) (VRp_sc w.heap.size K a0 a1 a2 c0 c1 c2 s 2 (someOf K s 2)) (by kernel_rfl) (by kernel_rfl) (by kernel_rfl) (by kernel_rfl) _ _ rfl rfl rfl rfl rfl (by decide) (by kernel_rfl) rfl (by kernel_rfl) HO2.out Tryz.infoAc8 ?_ ?_ ?_
    · rintro u W ⟨va, n, vc, rfl, h0⟩
      exact ⟨[_, _, _, _, _, _, _, _], rfl, rfl, by simp [Value.oneCell']⟩
    · intro i o ho hne a W hW hk hd
      have hV : SBkV W a0 a1 a2 K := HH.out.later (hW.below HI.out.bel (by omega))
      have hsz : w.heap.size + 4 ≤ W.heap.size := Nat.le_trans hz4 hW.size
      have hl0 : w.heap.size < wa.heap.size := by omega
      have hl1 : w.heap.size + 1 < wa.heap.size := by omega
      have hl3 : w.heap.size + 3 < wa.heap.size := by omega
      have y0 := (hW.cell hl0 (by omega) 0).trans HI.out.bk.x0
      have y1 := (hW.cell hl0 (by omega) 1).trans HI.out.bk.x1
      have y2 := (hW.cell hl0 (by omega) 2).trans HI.out.bk.x2
      have y3 := (hW.cell hl0 (by omega) 3).trans HI.out.bk.x3
      have s0 := (hW.cell hl1 (by omega) 0).trans HI.out.sv.x0
      have s1 := (hW.cell hl1 (by omega) 1).trans HI.out.sv.x1
      have s2 := (hW.cell hl1 (by omega) 2).trans HI.out.sv.x2
      have s3 := (hW.cell hl1 (by omega) 3).trans HI.out.sv.x3
      have s4 := (hW.cell hl1 (by omega) 4).trans HI.out.sv.x4
      have s5 := (hW.cell hl1 (by omega) 5).trans HI.out.sv.x5
      have s6 := (hW.cell hl1 (by omega) 6).trans HI.out.sv.x6
      have s7 := (hW.cell hl1 (by omega) 7).trans HI.out.sv.x7
      have s8 := (hW.cell hl1 (by omega) 8).trans HI.out.sv.x8
      have s9 := (hW.cell hl1 (by omega) 9).trans HI.out.sv.x9
      have s10 := (hW.cell hl1 (by omega) 10).trans HI.out.sv.x10
      have s11 := (hW.cell hl1 (by omega) 11).trans HI.out.sv.x11
      have s12 := (hW.cell hl1 (by omega) 12).trans HI.out.sv.x12
      have v0 := (hW.cell hl3 (by omega) 0).trans (HI.out.av.at_ 0 _ rfl (by omega))
      have v1 := (hW.cell hl3 (by omega) 1).trans (HI.out.av.at_ 1 _ rfl (by omega))
      have v2 := (hW.cell hl3 (by omega) 2).trans (HI.out.av.at_ 2 _ rfl (by omega))
      have v3 := (hW.cell hl3 (by omega) 3).trans (HI.out.av.at_ 3 _ rfl (by omega))
      have v4 := (hW.cell hl3 (by omega) 4).trans (HI.out.av.at_ 4 _ rfl (by omega))
      have v5 := (hW.cell hl3 (by omega) 5).trans (HI.out.av.at_ 5 _ rfl (by omega))
      have v6 := (hW.cell hl3 (by omega) 6).trans (HI.out.av.at_ 6 _ rfl (by omega))
      have v7 := (hW.cell hl3 (by omega) 7).trans (HI.out.av.at_ 7 _ rfl (by omega))
      have et4 : a.tmps[4]?.getD undef = .pointer (some ⟨w.heap.size, 0, none⟩) := (RY.ev_tmp a 4).trans ((hk 4 (by kernel_rfl)).trans rfl)
      have et5 : a.tmps[5]?.getD undef = .pointer (some ⟨w.heap.size + 1, 0, none⟩) := (RY.ev_tmp a 5).trans ((hk 5 (by kernel_rfl)).trans rfl)
      have et7 : a.tmps[7]?.getD undef = .pointer (some ⟨w.heap.size + 3, 0, none⟩) := (RY.ev_tmp a 7).trans ((hk 7 (by kernel_rfl)).trans rfl)
      have et0 : a.tmps[0]?.getD undef = .int .i64 2 := (RY.ev_tmp a 0).trans ((hk 0 (by kernel_rfl)).trans rfl)
      match i, ho with
      | 0, ho =>
        injection ho with ho; subst ho
        exact Or.inl ⟨_, W, by simp [execOp, go_sem, et4, y0, y1, y2, y3], Below.refl _ _, rfl⟩
      | 1, ho =>
        injection ho with ho; subst ho
        exact Or.inl ⟨_, W, by simp [execOp, go_sem, et5, s0, s1, s2, s3, s4, s5, s6, s7, s8, s9, s10, s11, s12], Below.refl _ _, rfl⟩
      | 2, ho =>
        injection ho with ho; subst ho
        exact Or.inl ⟨_, W, by simp [execOp, go_sem, et7, v0, v1, v2, v3, v4, v5, v6, v7], Below.refl _ _, rfl⟩
      | 3, ho =>
        injection ho with ho; subst ho
        exact Or.inl ⟨_, W, by simp [execOp, go_sem, et4, y0, y1, y2, y3], Below.refl _ _, rfl⟩
      | 4, ho =>
        injection ho with ho; subst ho
        exact Or.inl ⟨_, W, by simp [execOp, go_sem, et5, s0, s1, s2, s3, s4, s5, s6, s7, s8, s9, s10, s11, s12], Below.refl _ _, rfl⟩
      | 5, ho =>
        injection ho with ho; subst ho
        exact Or.inl ⟨_, W, by simp [execOp, go_sem, et0], Below.refl _ _, rfl⟩
      | 6, ho =>
        injection ho with ho; subst ho
        have e0 : a.tmps[59]?.getD undef = _ := (RY.ev_tmp a 59).trans (hd 3 _ 59 rfl rfl ⟨⟨3, .data⟩, by simp, rfl, rfl⟩)
        have e1 : a.tmps[60]?.getD undef = _ := (RY.ev_tmp a 60).trans (hd 4 _ 60 rfl rfl ⟨⟨4, .data⟩, by simp, rfl, rfl⟩)
        have e2 : a.tmps[61]?.getD undef = _ := (RY.ev_tmp a 61).trans (hd 5 _ 61 rfl rfl ⟨⟨5, .data⟩, by simp, rfl, rfl⟩)
        refine Or.inr ⟨49, #[.agg #[.int .i64 K.now, .slice a0 K.svcs.length c0, .slice a1 K.cps.length c1, .slice a2 K.bts.length c2], .agg #[.string s.nm, .int .i64 s.ver, .bool s.gone, .int .i64 s.image, .int .i64 s.want, .int .i64 s.down, .int .i64 s.over, .int .i64 s.next, .int .i64 s.per, .int .i64 s.least, .int .i64 s.most, .int .i64 s.load, .int .i64 s.cool], .int .i64 2], by simp [go_sem, e0, e1, e2], (l16SomeS K a0 a1 a2 c0 c1 c2 s 2 (by simp) W hV hcc).mono ?_⟩
        rintro e W' ⟨⟨v, rfl, ho⟩, hb⟩
        exact ⟨_, rfl, hb, owns_base ho hsz⟩
      | 7, ho =>
        injection ho with ho; subst ho
        have e0 : a.tmps[56]?.getD undef = _ := (RY.ev_tmp a 56).trans (hd 0 _ 56 rfl rfl ⟨⟨0, .data⟩, by simp, rfl, rfl⟩)
        have e1 : a.tmps[57]?.getD undef = _ := (RY.ev_tmp a 57).trans (hd 1 _ 57 rfl rfl ⟨⟨1, .data⟩, by simp, rfl, rfl⟩)
        have e2 : a.tmps[58]?.getD undef = _ := (RY.ev_tmp a 58).trans (hd 2 _ 58 rfl rfl ⟨⟨2, .data⟩, by simp, rfl, rfl⟩)
        have o3 := hd 6 _ 62 rfl rfl ⟨⟨6, .data⟩, by simp, rfl, rfl⟩
        obtain ⟨am, cm, e3'⟩ := owns_slice o3
        rw [e3'] at o3
        have e3 := (RY.ev_tmp a 62).trans e3'
        refine Or.inr ⟨53, #[.agg #[.int .i64 K.now, .slice a0 K.svcs.length c0, .slice a1 K.cps.length c1, .slice a2 K.bts.length c2], .agg #[.string s.nm, .int .i64 s.ver, .bool s.gone, .int .i64 s.image, .int .i64 s.want, .int .i64 s.down, .int .i64 s.over, .int .i64 s.next, .int .i64 s.per, .int .i64 s.least, .int .i64 s.most, .int .i64 s.load, .int .i64 s.cool], .agg #[.string s.nm, .int .i64 s.ver, .int .i64 0, .int .i64 0, .int .i64 0, .bool false, .slice none 0 0, .bool false], .slice am (someOf K s 2).length cm], by simp [go_sem, e0, e1, e2, e3], (l16ReplaceS K a0 a1 a2 c0 c1 c2 s (someOf K s 2) am cm (w.heap.size + 4) W hV HSN.out o3 (HZS.out 2) (HLS.out 2) hw0 hw1 ho0 ho1).mono ?_⟩
        rintro e W' ⟨⟨va, n, vc, rfl, ho⟩, hb⟩
        exact ⟨_, rfl, hb, va, n, vc, rfl, owns_base ho hsz⟩
      | 8, ho => exact absurd rfl hne
      | n + 9, ho => simp at ho
    intro W vs hW hvs hOw hrg
    obtain ⟨va, vn, vc, e7, hro⟩ := hvs 7 _ 63 rfl rfl
    have hrt := hrg [.string s.nm, .int .i64 s.ver, .int .i64 (replAc K s (someOf K s 2)).create, .int .i64 0, .int .i64 0, .bool false, .slice va vn vc, .bool false] e7
    have HB3 := hid (hW.below HI.out.bel (by omega))
    have HRO := hid hro
    simp only [RY.putAll, Act.put, List.setIfInBounds_toArray, List.set_cons_zero, List.set_cons_succ]
    clear hvs hrg e7 hro hOw
    generalize vs 56 = z56
    generalize vs 57 = z57
    generalize vs 58 = z58
    generalize vs 59 = z59
    generalize vs 60 = z60
    generalize vs 61 = z61
    generalize vs 62 = z62
    generalize vs 63 = z63
    go_wp2
    refine bodyPost_ret (v := .agg #[.string s.nm, .int .i64 s.ver, .int .i64 (replAc K s (someOf K s 2)).create, .int .i64 0, .int .i64 0, .bool false, .slice va vn vc, .bool false]) (by simp [results, Tryz.results17, asAddr, run_loadVar_mid (P := Tryz.prog) _ _ _ 47 [.string s.nm, .int .i64 s.ver, .int .i64 (replAc K s (someOf K s 2)).create, .int .i64 0, .int .i64 0, .bool false, .slice va vn vc, .bool false] _ hrt Tryz.underlying47 rfl (by kernel_rfl)]) rfl ?_
    rw [HE.out]
    obtain ⟨r0, r1, r2, r3⟩ := repl_rest K s (someOf K s 2)
    rw [r0, r1, r2, r3]
    exact ⟨⟨_, _, _, rfl, owns_base HRO.out (by omega)⟩, HB3.out⟩
  have k2' : (kind == 2) = false := by simp [k2]
  rw [if_neg k2] at HX
  by_cases k6 : kind = 6
  · subst k6
    rw [if_pos rfl] at HX
    go_wp2_with fail
    refine (l16SomeS K a0 a1 a2 c0 c1 c2 s 2 (by simp) wa (HH.out.later HI.out.bel) hcc).mono ?_
    rintro e w1 ⟨⟨v8, rfl, hown⟩, hb⟩
    obtain ⟨al, cl, hv⟩ := owns_slice hown
    subst hv
    obtain ⟨n1, hn1⟩ : ∃ n1, n1 = (someOf K s 2).length := ⟨_, rfl⟩
    rw [← hn1] at HX ⊢
    have hl1 : n1 ≤ 1048576 := by rw [hn1]; exact HLS.out 2
    have HI1 := hid (HI.out.later hb)
    have HZ41 : Hid (w.heap.size + 4 ≤ w1.heap.size) := Nat.le_trans HZ4.out hb.size
    clear hn1 hown hb yz y0 y1 y2 y3 sz s0 s1 s2 s3 s4 s5 s6 s7 s8 s9 s10 s11 s12 HI HZ4
    have HZ4 := HZ41
    clear HZ41
    by_cases q0 : n1 = 0
    · have HE : Hid (X = replAc K s (someOf K s 6)) := by show X = _; rw [HX.out, if_pos q0]
      have hq : ((n1 : Int) == 0) = true := by simp [q0]
      clear HX q0
      have HO2 : Hid (OwnBlk w1 (w.heap.size + 2) 47 8) := HI1.out.av.r
      have hz4 : w.heap.size + 4 ≤ w1.heap.size := HZ4.out
      go_upto_region 18 with fail
      refine RY.region_put (VRp w.heap.size K a0 a1 a2 c0 c1 c2 s 6 (someOf K s 6)) (VRp_mono w.heap.size K a0 a1 a2 c0 c1 c2 s 6 (someOf K s 6)) 7 8 78 6 47 8 (w.heap.size + 2) (VRp_sc w.heap.size K a0 a1 a2 c0 c1 c2 s 6 (someOf K s 6)) (by kernel_rfl) (by kernel_rfl) (by kernel_rfl) (by kernel_rfl) _ _ rfl rfl rfl rfl rfl (by decide) (by kernel_rfl) rfl (by kernel_rfl) HO2.out Tryz.infoAc8 ?_ ?_ ?_
      · rintro u W ⟨va, n, vc, rfl, h0⟩
        exact ⟨[_, _, _, _, _, _, _, _], rfl, rfl, by simp [Value.oneCell']⟩
      · intro i o ho hne a W hW hk hd
        have hV : SBkV W a0 a1 a2 K := HH.out.later (hW.below HI1.out.bel (by omega))
        have hsz : w.heap.size + 4 ≤ W.heap.size := Nat.le_trans hz4 hW.size
        have hl0 : w.heap.size < w1.heap.size := by omega
        have hl1 : w.heap.size + 1 < w1.heap.size := by omega
        have hl3 : w.heap.size + 3 < w1.heap.size := by omega
        have y0 := (hW.cell hl0 (by omega) 0).trans HI1.out.bk.x0
        have y1 := (hW.cell hl0 (by omega) 1).trans HI1.out.bk.x1
        have y2 := (hW.cell hl0 (by omega) 2).trans HI1.out.bk.x2
        have y3 := (hW.cell hl0 (by omega) 3).trans HI1.out.bk.x3
        have s0 := (hW.cell hl1 (by omega) 0).trans HI1.out.sv.x0
        have s1 := (hW.cell hl1 (by omega) 1).trans HI1.out.sv.x1
        have s2 := (hW.cell hl1 (by omega) 2).trans HI1.out.sv.x2
        have s3 := (hW.cell hl1 (by omega) 3).trans HI1.out.sv.x3
        have s4 := (hW.cell hl1 (by omega) 4).trans HI1.out.sv.x4
        have s5 := (hW.cell hl1 (by omega) 5).trans HI1.out.sv.x5
        have s6 := (hW.cell hl1 (by omega) 6).trans HI1.out.sv.x6
        have s7 := (hW.cell hl1 (by omega) 7).trans HI1.out.sv.x7
        have s8 := (hW.cell hl1 (by omega) 8).trans HI1.out.sv.x8
        have s9 := (hW.cell hl1 (by omega) 9).trans HI1.out.sv.x9
        have s10 := (hW.cell hl1 (by omega) 10).trans HI1.out.sv.x10
        have s11 := (hW.cell hl1 (by omega) 11).trans HI1.out.sv.x11
        have s12 := (hW.cell hl1 (by omega) 12).trans HI1.out.sv.x12
        have v0 := (hW.cell hl3 (by omega) 0).trans (HI1.out.av.at_ 0 _ rfl (by omega))
        have v1 := (hW.cell hl3 (by omega) 1).trans (HI1.out.av.at_ 1 _ rfl (by omega))
        have v2 := (hW.cell hl3 (by omega) 2).trans (HI1.out.av.at_ 2 _ rfl (by omega))
        have v3 := (hW.cell hl3 (by omega) 3).trans (HI1.out.av.at_ 3 _ rfl (by omega))
        have v4 := (hW.cell hl3 (by omega) 4).trans (HI1.out.av.at_ 4 _ rfl (by omega))
        have v5 := (hW.cell hl3 (by omega) 5).trans (HI1.out.av.at_ 5 _ rfl (by omega))
        have v6 := (hW.cell hl3 (by omega) 6).trans (HI1.out.av.at_ 6 _ rfl (by omega))
        have v7 := (hW.cell hl3 (by omega) 7).trans (HI1.out.av.at_ 7 _ rfl (by omega))
        have et4 : a.tmps[4]?.getD undef = .pointer (some ⟨w.heap.size, 0, none⟩) := (RY.ev_tmp a 4).trans ((hk 4 (by kernel_rfl)).trans rfl)
        have et5 : a.tmps[5]?.getD undef = .pointer (some ⟨w.heap.size + 1, 0, none⟩) := (RY.ev_tmp a 5).trans ((hk 5 (by kernel_rfl)).trans rfl)
        have et7 : a.tmps[7]?.getD undef = .pointer (some ⟨w.heap.size + 3, 0, none⟩) := (RY.ev_tmp a 7).trans ((hk 7 (by kernel_rfl)).trans rfl)
        have et0 : a.tmps[0]?.getD undef = .int .i64 6 := (RY.ev_tmp a 0).trans ((hk 0 (by kernel_rfl)).trans rfl)
        match i, ho with
        | 0, ho =>
          injection ho with ho; subst ho
          exact Or.inl ⟨_, W, by simp [execOp, go_sem, et4, y0, y1, y2, y3], Below.refl _ _, rfl⟩
        | 1, ho =>
          injection ho with ho; subst ho
          exact Or.inl ⟨_, W, by simp [execOp, go_sem, et5, s0, s1, s2, s3, s4, s5, s6, s7, s8, s9, s10, s11, s12], Below.refl _ _, rfl⟩
        | 2, ho =>
          injection ho with ho; subst ho
          exact Or.inl ⟨_, W, by simp [execOp, go_sem, et7, v0, v1, v2, v3, v4, v5, v6, v7], Below.refl _ _, rfl⟩
        | 3, ho =>
          injection ho with ho; subst ho
          exact Or.inl ⟨_, W, by simp [execOp, go_sem, et4, y0, y1, y2, y3], Below.refl _ _, rfl⟩
        | 4, ho =>
          injection ho with ho; subst ho
          exact Or.inl ⟨_, W, by simp [execOp, go_sem, et5, s0, s1, s2, s3, s4, s5, s6, s7, s8, s9, s10, s11, s12], Below.refl _ _, rfl⟩
        | 5, ho =>
          injection ho with ho; subst ho
          exact Or.inl ⟨_, W, by simp [execOp, go_sem, et0], Below.refl _ _, rfl⟩
        | 6, ho =>
          injection ho with ho; subst ho
          have e0 : a.tmps[74]?.getD undef = _ := (RY.ev_tmp a 74).trans (hd 3 _ 74 rfl rfl ⟨⟨3, .data⟩, by simp, rfl, rfl⟩)
          have e1 : a.tmps[75]?.getD undef = _ := (RY.ev_tmp a 75).trans (hd 4 _ 75 rfl rfl ⟨⟨4, .data⟩, by simp, rfl, rfl⟩)
          have e2 : a.tmps[76]?.getD undef = _ := (RY.ev_tmp a 76).trans (hd 5 _ 76 rfl rfl ⟨⟨5, .data⟩, by simp, rfl, rfl⟩)
          refine Or.inr ⟨49, #[.agg #[.int .i64 K.now, .slice a0 K.svcs.length c0, .slice a1 K.cps.length c1, .slice a2 K.bts.length c2], .agg #[.string s.nm, .int .i64 s.ver, .bool s.gone, .int .i64 s.image, .int .i64 s.want, .int .i64 s.down, .int .i64 s.over, .int .i64 s.next, .int .i64 s.per, .int .i64 s.least, .int .i64 s.most, .int .i64 s.load, .int .i64 s.cool], .int .i64 6], by simp [go_sem, e0, e1, e2], (l16SomeS K a0 a1 a2 c0 c1 c2 s 6 (by simp) W hV hcc).mono ?_⟩
          rintro e W' ⟨⟨v, rfl, ho⟩, hb⟩
          exact ⟨_, rfl, hb, owns_base ho hsz⟩
        | 7, ho =>
          injection ho with ho; subst ho
          have e0 : a.tmps[71]?.getD undef = _ := (RY.ev_tmp a 71).trans (hd 0 _ 71 rfl rfl ⟨⟨0, .data⟩, by simp, rfl, rfl⟩)
          have e1 : a.tmps[72]?.getD undef = _ := (RY.ev_tmp a 72).trans (hd 1 _ 72 rfl rfl ⟨⟨1, .data⟩, by simp, rfl, rfl⟩)
          have e2 : a.tmps[73]?.getD undef = _ := (RY.ev_tmp a 73).trans (hd 2 _ 73 rfl rfl ⟨⟨2, .data⟩, by simp, rfl, rfl⟩)
          have o3 := hd 6 _ 77 rfl rfl ⟨⟨6, .data⟩, by simp, rfl, rfl⟩
          obtain ⟨am, cm, e3'⟩ := owns_slice o3
          rw [e3'] at o3
          have e3 := (RY.ev_tmp a 77).trans e3'
          refine Or.inr ⟨53, #[.agg #[.int .i64 K.now, .slice a0 K.svcs.length c0, .slice a1 K.cps.length c1, .slice a2 K.bts.length c2], .agg #[.string s.nm, .int .i64 s.ver, .bool s.gone, .int .i64 s.image, .int .i64 s.want, .int .i64 s.down, .int .i64 s.over, .int .i64 s.next, .int .i64 s.per, .int .i64 s.least, .int .i64 s.most, .int .i64 s.load, .int .i64 s.cool], .agg #[.string s.nm, .int .i64 s.ver, .int .i64 0, .int .i64 0, .int .i64 0, .bool false, .slice none 0 0, .bool false], .slice am (someOf K s 6).length cm], by simp [go_sem, e0, e1, e2, e3], (l16ReplaceS K a0 a1 a2 c0 c1 c2 s (someOf K s 6) am cm (w.heap.size + 4) W hV HSN.out o3 (HZS.out 6) (HLS.out 6) hw0 hw1 ho0 ho1).mono ?_⟩
          rintro e W' ⟨⟨va, n, vc, rfl, ho⟩, hb⟩
          exact ⟨_, rfl, hb, va, n, vc, rfl, owns_base ho hsz⟩
        | 8, ho => exact absurd rfl hne
        | n + 9, ho => simp at ho
      intro W vs hW hvs hOw hrg
      obtain ⟨va, vn, vc, e7, hro⟩ := hvs 7 _ 78 rfl rfl
      have hrt := hrg [.string s.nm, .int .i64 s.ver, .int .i64 (replAc K s (someOf K s 6)).create, .int .i64 0, .int .i64 0, .bool false, .slice va vn vc, .bool false] e7
      have HB3 := hid (hW.below HI1.out.bel (by omega))
      have HRO := hid hro
      simp only [RY.putAll, Act.put, List.setIfInBounds_toArray, List.set_cons_zero, List.set_cons_succ]
      clear hvs hrg e7 hro hOw
      generalize vs 71 = z71
      generalize vs 72 = z72
      generalize vs 73 = z73
      generalize vs 74 = z74
      generalize vs 75 = z75
      generalize vs 76 = z76
      generalize vs 77 = z77
      generalize vs 78 = z78
      go_wp2
      refine bodyPost_ret (v := .agg #[.string s.nm, .int .i64 s.ver, .int .i64 (replAc K s (someOf K s 6)).create, .int .i64 0, .int .i64 0, .bool false, .slice va vn vc, .bool false]) (by simp [results, Tryz.results17, asAddr, run_loadVar_mid (P := Tryz.prog) _ _ _ 47 [.string s.nm, .int .i64 s.ver, .int .i64 (replAc K s (someOf K s 6)).create, .int .i64 0, .int .i64 0, .bool false, .slice va vn vc, .bool false] _ hrt Tryz.underlying47 rfl (by kernel_rfl)]) rfl ?_
      rw [HE.out]
      obtain ⟨r0, r1, r2, r3⟩ := repl_rest K s (someOf K s 6)
      rw [r0, r1, r2, r3]
      exact ⟨⟨_, _, _, rfl, owns_base HRO.out (by omega)⟩, HB3.out⟩
    · have HE : Hid (X = baseAc s) := by show X = _; rw [HX.out, if_neg q0]
      have hq : ((n1 : Int) == 0) = false := by simp [q0]
      clear HX q0
      go_upto_region 22 with fail
      have HVf := hid HI1.out.av
      have hrg := HVf.out.range
      have hth := RY.own_there HVf.out.r
      have hrt : World.rangeAt (w1.setCells (w.heap.size + 2) 0 [.string s.nm, .int .i64 s.ver, .int .i64 0, .int .i64 0, .int .i64 0, .bool false, .slice none 0 0, .bool false]) (w.heap.size + 2) 0 [.string s.nm, .int .i64 s.ver, .int .i64 0, .int .i64 0, .int .i64 0, .bool false, .slice none 0 0, .bool false] := World.rangeAt_setCells_same _ _ _ _ hth
      refine wp_region_lit ?_
      refine wpList_load_mid rfl 47 _ rfl (w.heap.size + 3) 0 rfl [.string s.nm, .int .i64 s.ver, .int .i64 0, .int .i64 0, .int .i64 0, .bool false, .slice none 0 0, .bool false] _ hrg Tryz.underlying47 rfl (by kernel_rfl) ?_
      refine wpList_store_mid rfl 47 _ _ rfl (w.heap.size + 2) 0 #[.string s.nm, .int .i64 s.ver, .int .i64 0, .int .i64 0, .int .i64 0, .bool false, .slice none 0 0, .bool false] rfl rfl hth (by kernel_rfl) (by simp [Value.oneCell']) ?_
      simp only [Act.put, List.setIfInBounds_toArray, List.set_cons_zero, List.set_cons_succ]
      go_wp2
      refine bodyPost_ret (v := .agg #[.string s.nm, .int .i64 s.ver, .int .i64 0, .int .i64 0, .int .i64 0, .bool false, .slice none 0 0, .bool false]) (by simp [results, Tryz.results17, asAddr, run_loadVar_mid (P := Tryz.prog) _ _ _ 47 [.string s.nm, .int .i64 s.ver, .int .i64 0, .int .i64 0, .int .i64 0, .bool false, .slice none 0 0, .bool false] _ hrt Tryz.underlying47 rfl (by kernel_rfl)]) rfl ?_
      rw [HE.out]
      exact ⟨⟨_, _, _, rfl, owns_nil _ _ _ _⟩, setCells_below HI1.out.bel (by omega) _ _⟩
  have k6' : (kind == 6) = false := by simp [k6]
  rw [if_neg k6] at HX
  by_cases k4 : kind = 4
  · subst k4
    by_cases hp : 0 < s.per
    · have HE : Hid (X = scalAc s) := by show X = _; rw [HX.out, if_pos rfl, if_pos hp]
      clear HX
      have v0 := HI.out.av.at_ 0 _ rfl (by omega)
      have v1 := HI.out.av.at_ 1 _ rfl (by omega)
      have v2 := HI.out.av.at_ 2 _ rfl (by omega)
      have v3 := HI.out.av.at_ 3 _ rfl (by omega)
      have v4 := HI.out.av.at_ 4 _ rfl (by omega)
      have v5 := HI.out.av.at_ 5 _ rfl (by omega)
      have v6 := HI.out.av.at_ 6 _ rfl (by omega)
      have v7 := HI.out.av.at_ 7 _ rfl (by omega)
      have vz := HI.out.av.a.lt
      go_wp2_with fail
      refine (l16ScalerS s wa hp hp1 hd0 hd1 hw0 hw1 hq0 hq1).mono ?_
      rintro e w1 ⟨rfl, hb⟩
      have HI1 := hid (HI.out.later hb)
      have HB1 := hid HI1.out.bel
      have HO2 := hid HI1.out.av.r
      have hz4 := HZ4.out
      clear hb v0 v1 v2 v3 v4 v5 v6 v7 vz yz y0 y1 y2 y3 sz s0 s1 s2 s3 s4 s5 s6 s7 s8 s9 s10 s11 s12
      have hth := RY.own_there HO2.out
      have hrt : World.rangeAt (w1.setCells (w.heap.size + 2) 0 [.string s.nm, .int .i64 s.ver, .int .i64 0, .int .i64 (scal s).1, .int .i64 (scal s).2.1, .bool (scal s).2.2, .slice none 0 0, .bool false]) (w.heap.size + 2) 0 [.string s.nm, .int .i64 s.ver, .int .i64 0, .int .i64 (scal s).1, .int .i64 (scal s).2.1, .bool (scal s).2.2, .slice none 0 0, .bool false] := World.rangeAt_setCells_same _ _ _ _ hth
      dsimp only
      refine (‹∀ (a : Act) (w : World), wpList Tryz.prog _ _ _ a w → _›) _ _ ?_
      refine wpList_store_mid rfl 47 _ _ rfl (w.heap.size + 2) 0 #[.string s.nm, .int .i64 s.ver, .int .i64 0, .int .i64 (scal s).1, .int .i64 (scal s).2.1, .bool (scal s).2.2, .slice none 0 0, .bool false] rfl rfl hth (by kernel_rfl) (by simp [Value.oneCell']) ?_
      simp only [Act.put]
      go_wp2
      refine bodyPost_ret (v := .agg #[.string s.nm, .int .i64 s.ver, .int .i64 0, .int .i64 (scal s).1, .int .i64 (scal s).2.1, .bool (scal s).2.2, .slice none 0 0, .bool false]) (by simp [results, Tryz.results17, asAddr, run_loadVar_mid (P := Tryz.prog) _ _ _ 47 [.string s.nm, .int .i64 s.ver, .int .i64 0, .int .i64 (scal s).1, .int .i64 (scal s).2.1, .bool (scal s).2.2, .slice none 0 0, .bool false] _ hrt Tryz.underlying47 rfl (by kernel_rfl)]) rfl ?_
      rw [HE.out]
      exact ⟨⟨_, _, _, rfl, owns_nil _ _ _ _⟩, setCells_below HB1.out (by omega) _ _⟩
    · have HE : Hid (X = baseAc s) := by show X = _; rw [HX.out, if_pos rfl, if_neg hp]
      clear HX
      go_upto_region 22 with fail
      have HVf := hid HI.out.av
      have hrg := HVf.out.range
      have hth := RY.own_there HVf.out.r
      have hrt : World.rangeAt (wa.setCells (w.heap.size + 2) 0 [.string s.nm, .int .i64 s.ver, .int .i64 0, .int .i64 0, .int .i64 0, .bool false, .slice none 0 0, .bool false]) (w.heap.size + 2) 0 [.string s.nm, .int .i64 s.ver, .int .i64 0, .int .i64 0, .int .i64 0, .bool false, .slice none 0 0, .bool false] := World.rangeAt_setCells_same _ _ _ _ hth
      refine wp_region_lit ?_
      refine wpList_load_mid rfl 47 _ rfl (w.heap.size + 3) 0 rfl [.string s.nm, .int .i64 s.ver, .int .i64 0, .int .i64 0, .int .i64 0, .bool false, .slice none 0 0, .bool false] _ hrg Tryz.underlying47 rfl (by kernel_rfl) ?_
      refine wpList_store_mid rfl 47 _ _ rfl (w.heap.size + 2) 0 #[.string s.nm, .int .i64 s.ver, .int .i64 0, .int .i64 0, .int .i64 0, .bool false, .slice none 0 0, .bool false] rfl rfl hth (by kernel_rfl) (by simp [Value.oneCell']) ?_
      simp only [Act.put, List.setIfInBounds_toArray, List.set_cons_zero, List.set_cons_succ]
      go_wp2
      refine bodyPost_ret (v := .agg #[.string s.nm, .int .i64 s.ver, .int .i64 0, .int .i64 0, .int .i64 0, .bool false, .slice none 0 0, .bool false]) (by simp [results, Tryz.results17, asAddr, run_loadVar_mid (P := Tryz.prog) _ _ _ 47 [.string s.nm, .int .i64 s.ver, .int .i64 0, .int .i64 0, .int .i64 0, .bool false, .slice none 0 0, .bool false] _ hrt Tryz.underlying47 rfl (by kernel_rfl)]) rfl ?_
      rw [HE.out]
      exact ⟨⟨_, _, _, rfl, owns_nil _ _ _ _⟩, setCells_below HI.out.bel (by omega) _ _⟩
  have k4' : (kind == 4) = false := by simp [k4]
  have HE : Hid (X = baseAc s) := by show X = _; rw [HX.out, if_neg k4]
  clear HX
  go_upto_region 22 with fail
  have HVf := hid HI.out.av
  have hrg := HVf.out.range
  have hth := RY.own_there HVf.out.r
  have hrt : World.rangeAt (wa.setCells (w.heap.size + 2) 0 [.string s.nm, .int .i64 s.ver, .int .i64 0, .int .i64 0, .int .i64 0, .bool false, .slice none 0 0, .bool false]) (w.heap.size + 2) 0 [.string s.nm, .int .i64 s.ver, .int .i64 0, .int .i64 0, .int .i64 0, .bool false, .slice none 0 0, .bool false] := World.rangeAt_setCells_same _ _ _ _ hth
  refine wp_region_lit ?_
  refine wpList_load_mid rfl 47 _ rfl (w.heap.size + 3) 0 rfl [.string s.nm, .int .i64 s.ver, .int .i64 0, .int .i64 0, .int .i64 0, .bool false, .slice none 0 0, .bool false] _ hrg Tryz.underlying47 rfl (by kernel_rfl) ?_
  refine wpList_store_mid rfl 47 _ _ rfl (w.heap.size + 2) 0 #[.string s.nm, .int .i64 s.ver, .int .i64 0, .int .i64 0, .int .i64 0, .bool false, .slice none 0 0, .bool false] rfl rfl hth (by kernel_rfl) (by simp [Value.oneCell']) ?_
  simp only [Act.put, List.setIfInBounds_toArray, List.set_cons_zero, List.set_cons_succ]
  go_wp2
  refine bodyPost_ret (v := .agg #[.string s.nm, .int .i64 s.ver, .int .i64 0, .int .i64 0, .int .i64 0, .bool false, .slice none 0 0, .bool false]) (by simp [results, Tryz.results17, asAddr, run_loadVar_mid (P := Tryz.prog) _ _ _ 47 [.string s.nm, .int .i64 s.ver, .int .i64 0, .int .i64 0, .int .i64 0, .bool false, .slice none 0 0, .bool false] _ hrt Tryz.underlying47 rfl (by kernel_rfl)]) rfl ?_
  rw [HE.out]
  exact ⟨⟨_, _, _, rfl, owns_nil _ _ _ _⟩, setCells_below HI.out.bel (by omega) _ _⟩

end Go.Proofs.YtamhfnlogldpaaaGreat
