/-
  Rows of bytes of one's own: made, grown, turned into a text.
-/
import Derived.Deep.AppendSrc
import Derived.Lib.AppendZeros
import Derived.Laws.OwnMore
import Derived.Test.YtikacjpbnoihjaaUL
import Derived.Test.YtikacjpbnoihjaaEWa
import Derived.Test.YtikacjpbnoihjaaRgF
namespace Go.Proofs.Ytikacjpbnoihjaa
open Go.RowKit Go.Deep

/-- No lists in it. -/
def flatB : List Sh → Bool
  | [] => true
  | .row _ _ :: _ => false
  | .i :: ss => flatB ss
  | .b :: ss => flatB ss
  | .s :: ss => flatB ss
theorem Raw.flat {w : World} {ss : List Sh} {ds : List Dt} {cs : List Value} (h : Raw w ss ds cs) : flatB ss = true → ∀ w' tt, Rep w' tt ss [] ds cs := by
  induction h with
  | nil => intro _ _ _; exact .nil
  | i n h ih => intro hf w' tt; rw [flatB] at hf; exact .i n (ih hf w' tt)
  | b n h ih => intro hf w' tt; rw [flatB] at hf; exact .b n (ih hf w' tt)
  | s n h ih => intro hf w' tt; rw [flatB] at hf; exact .s n (ih hf w' tt)
  | emp t sh a c h ih => intro hf; rw [flatB] at hf; cases hf
  | row t sh p o n c vs es hp hn hr he h ih1 ih => intro hf; rw [flatB] at hf; cases hf
theorem flatB_app : ∀ (a b : List Sh), flatB (a ++ b) = (flatB a && flatB b)
  | [], b => by simp [flatB]
  | .row t sh :: ss, b => by rw [List.cons_append, flatB, flatB]; rfl
  | .i :: ss, b => by rw [List.cons_append, flatB, flatB, flatB_app ss b]
  | .b :: ss, b => by rw [List.cons_append, flatB, flatB, flatB_app ss b]
  | .s :: ss, b => by rw [List.cons_append, flatB, flatB, flatB_app ss b]
theorem flatB_reps {sh : List Sh} (h : flatB sh = true) : ∀ n, flatB (reps n sh) = true
  | 0 => by rw [reps_zero, flatB]
  | n + 1 => by rw [reps_succ, flatB_app, h, flatB_reps h n]; rfl

/-- An empty row of one's own, or none. -/
def Emp0 (W : World) (lo : Nat) (e : TypeId) (v : Value) : Prop := v = .slice none 0 0 ∨ ∃ g, v = .slice (some ⟨g, 0, none⟩) 0 0 ∧ lo ≤ g ∧ W.heap[g]? = some (.cells #[] e (0, 0))
theorem Emp0.owns {W : World} {lo : Nat} {e : TypeId} {v : Value} (h : Emp0 W lo e v) (size : Nat) : W.ownsRow lo e size v 0 [] := by
  rcases h with rfl | ⟨g, rfl, hl, hg⟩
  · exact ⟨by simp, Or.inl ⟨rfl, rfl⟩⟩
  · exact ⟨by simp, Or.inr ⟨g, 0, #[], rfl, hl, hg, Nat.le_refl _, by decide, by simp, by simp⟩⟩
/-- A list copied onto an empty one. -/
theorem app_copy {P : Program} (lo : Nat) (t ty e t0 : TypeId) (size bytes : Nat) (z : Value) (ht : P.underlying t = some (.slice e)) (hinf : (P.info? e).map (fun i => (i.zero, i.size, i.bytes)) = some (some z, size, bytes)) (hzs : z.cells.size = size) (hs0 : 0 < size) (hb : bytes ≤ 1000)
    (sh : List Sh) (hk : sh.length = size) (hfl : flatB sh = true) (W : World) (v0 : Value) (hv0 : Emp0 W lo e v0) (hlo : lo ≤ W.heap.size) (n : Nat) (es : List Dt) (v : Value) (h : Raw W [.row t0 sh] [.row n es] [v]) (hn : n ≤ 4194304) :
    ∃ v' W' xs, (Builtin.append_ #[t, t] ty #[v0, v]).run P W = .ok v' W' ∧ Gr W' lo e sh v' n [] es xs ∧ Below W.heap.size W W' := by
  obtain ⟨i, hi, ei⟩ := Option.map_eq_some_iff.1 hinf
  simp only [Prod.mk.injEq] at ei
  obtain ⟨hz, hs, hby⟩ := ei
  by_cases h0 : n = 0
  · subst h0
    have he0 : es = [] := List.eq_nil_of_length_eq_zero (by obtain ⟨_, _, _, q, t, _⟩ := h.typ.c_r; injection q with e1 e2; injection e1 with e3 e4; subst e3; subst e4; have := t.rows; omega)
    subst he0
    obtain ⟨a, c, rfl⟩ := h.len0
    have hsrc : Src P i.size t (.slice a 0 c) 0 [] W := by
      cases a with
      | none => exact Src.ofNil W ht c
      | some ad => exact Src.ofSlice W ht ad 0 c [] (by simp) (fun j u h => by simp at h) (fun u h => by cases h)
    refine ⟨v0, W, [], ?_, ⟨by rw [hk]; exact hv0.owns size, .nil, List.nodup_nil, by simp⟩, Below.refl _ _⟩
    rcases hv0 with rfl | ⟨g, rfl, _, _⟩
    · have h1 := hsrc.len
      have h2 := hsrc.cells
      simp [Builtin.append_, run_underlying ht, sizeOf, typeInfo, hi, h1, h2]
    · have := run_append_room_src (P := P) W t t ty e i ht hi g 0 0 0 (.slice a 0 c) 0 [] hsrc (by omega) (fun j h => by simp at h) (fun j h => by simp at h)
      rw [this]; rfl
  · rcases h.slice with ⟨e0, _⟩ | ⟨p, o, c, rfl, hp, hnn, vs, hr, hR⟩
    · exact absurd e0 h0
    have hl : vs.length = n * size := by rw [hR.len, reps_len, hk]
    have hnb : n * bytes ≤ 4194304 * 1000 := Nat.mul_le_mul hn hb
    obtain ⟨v', W', hrun, hown, hgr, _⟩ := run_append_own (P := P) (w := W) lo t ty e i z size bytes ht hi hz hs hby hzs hs0 v0 0 [] (hv0.owns size) ⟨p, o, none⟩ n c vs hl (fun j u hu => by rw [Addr.add_mid]; exact hr j u hu) hR.one (by unfold maxLen; omega) (by rw [Nat.zero_add]; omega) hlo
    rw [Nat.zero_add, List.nil_append] at hown
    refine ⟨v', W', vs, hrun, ⟨by rw [hk]; exact hown, hR.flat (flatB_reps hfl n) W' false, List.nodup_nil, by simp⟩, ?_⟩
    rcases hv0 with rfl | ⟨g, rfl, hg1, hg2⟩
    · exact ⟨hgr.os, hgr.tape, hgr.output, hgr.size, fun q hq => hgr.block q hq (by simp [Value.ownBlock])⟩
    · have hnc : W'.heap[g]? = W.heap[g]? := by
        have hgl : g < W.heap.size := (Array.getElem?_eq_some_iff.1 hg2).1
        have hrun2 := run_append_grow (P := P) W t ty e i z ht hi hz ⟨g, 0, none⟩ 0 0 [] (by simp) (fun j v h => by simp at h) ⟨p, o, none⟩ n c vs (by rw [hs]; exact hl) (fun j u hu => by rw [Addr.add_mid]; exact hr j u hu) (by omega) (by omega) (growslice_fits (by omega) (by rw [Nat.zero_add, hby]; omega))
        rw [hrun2] at hrun
        injection hrun with _ hw
        rw [← hw]
        exact (blw_alloc (Below.drew (Below.refl _ _)) _ : Below W.heap.size W _).block g hgl
      refine ⟨hgr.os, hgr.tape, hgr.output, hgr.size, fun q hq => ?_⟩
      by_cases eq : q = g
      · subst eq; exact hnc
      · exact hgr.block q hq (by simp [Value.ownBlock, eq])

theorem uexec_append {P : Program} {o : Oper} {a : Act} {W W' : World} {v x v' : Value} (s y : Operand) (t : TypeId) (hop : o.op = Op.call { callee := Callee.builtin Builtin.append, args := #[s, y], argTypes := #[t, t] }) (hs : a.eval s = v) (hx : a.eval y = x)
    (hrun : (Builtin.append_ #[t, t] o.type #[v, x]).run P W = .ok v' W') : (execOp a.eval o).run P W = .ok (.value v') W' := by
  simp [execOp, hop, resolve, invoke, builtin, hs, hx, hrun, Result.andThen]

/-- One element put behind a list of one's own: in its room, or in a new block. -/
theorem rep_append {P : Program} (t ty e : TypeId) (size bytes : Nat) (z : Value) (ht : P.underlying t = some (.slice e)) (hinf : (P.info? e).map (fun i => (i.zero, i.size, i.bytes)) = some (some z, size, bytes)) (hzs : z.cells.size = size) (hb : bytes ≤ 1000)
    (sh : List Sh) (hk : sh.length = size) (W : World) {F : List Nat} {n : Nat} {es : List Dt} {v : Value} (h : Rep W false [.row e sh] F [.row n es] [v]) (hnd : F.Nodup) (hn : n ≤ 4194304) {F' : List Nat} {d : List Dt} {c' : List Value} (ad : Addr) (hd : Rep W false sh F' d c') (hF' : F'.Nodup) (hdj : ∀ b ∈ F', b ∉ F)
    (hsrc : ∀ j u, c'[j]? = some u → W.cell? (ad.add j) = some u) :
    ∃ v' W' F'' row, (Builtin.append_ #[t, t] ty #[v, .slice (some ad) 1 1]).run P W = .ok v' W' ∧ Rep W' false [.row e sh] F'' [.row (n + 1) (es ++ d)] [v'] ∧ F''.Nodup ∧ (∀ b ∈ F'', b ∈ F ∨ b ∈ F' ∨ b = W.heap.size) ∧ W.grownBy W' row ∧ (∀ b, row = some b → b ∈ F) := by
  obtain ⟨i, hi, ei⟩ := Option.map_eq_some_iff.1 hinf
  simp only [Prod.mk.injEq] at ei
  obtain ⟨hz, hs, hby⟩ := ei
  have hc : c'.length = 1 * i.size := by rw [hd.len, hk, hs, Nat.one_mul]
  have hnb : (n + 1) * bytes ≤ 4194305 * 1000 := Nat.mul_le_mul (by omega) hb
  have hsr : Src P i.size t (.slice (some ad) 1 1) 1 c' W := Src.ofSlice W ht ad 1 1 c' hc hsrc (fun u hu => hd.raw.one u hu)
  have hlt := hd.lt
  -- the arm that grows
  have grow : ∀ (base : Option Addr) (cap : Nat) (vs : List Value) (G : List Nat), cap < n + 1 → vs.length = n * i.size → (Builtin.firstCells i.size n (.slice base n cap)).run P W.drew = .ok vs.toArray W.drew → Rep W false (reps n sh) G es vs → G.Nodup → (∀ b ∈ G, b ∈ F) → v = .slice base n cap →
      ∃ v' W' F'' row, (Builtin.append_ #[t, t] ty #[v, .slice (some ad) 1 1]).run P W = .ok v' W' ∧ Rep W' false [.row e sh] F'' [.row (n + 1) (es ++ d)] [v'] ∧ F''.Nodup ∧ (∀ b ∈ F'', b ∈ F ∨ b ∈ F' ∨ b = W.heap.size) ∧ W.grownBy W' row ∧ (∀ b, row = some b → b ∈ F) := by
    intro base cap vs G hcap hvl hfc hR hGn hGF hv
    subst hv
    have hr := run_append_grow_src (P := P) W t t ty e i z ht hi hz base n cap vs hfc (.slice (some ad) 1 1) 1 c' hsr hcap (by omega) (growslice_fits (by omega) (by rw [hby]; omega))
    have hge := grownCap_ge W (n + 1) cap e
    have hle := grownCap_le_maxLen W (n + 1) cap e (by unfold maxLen; omega)
    have hbl : Below W.heap.size W (W.drew.alloc (.cells ((vs ++ c').toArray ++ Builtin.zeroCells z.cells (grownCap W (n + 1) cap e - (n + 1))) e)) := blw_alloc (Below.drew (Below.refl _ _)) _
    have hl1 : (vs ++ c').length = (n + 1) * i.size := by rw [List.length_append, hvl, hc, ← Nat.add_mul]
    refine ⟨_, _, W.heap.size :: ((G ++ F') ++ []), none, hr, ?_, ?_, ?_, ⟨hbl.os, hbl.tape, hbl.output, hbl.size, fun k hk _ => hbl.block k hk⟩, fun b hb => by cases hb⟩
    · refine Rep.row e sh W.heap.size 0 (n + 1) (grownCap W (n + 1) cap e) e (grownCap W (n + 1) cap e * sh.length) (vs ++ c') (es ++ d) (G ++ F') ⟨_, heap_alloc_new W.drew _, ?_⟩ (by omega) (by simp) ⟨by unfold maxLen; omega, hge⟩ ?_ ?_ .nil
      · rw [Array.size_append, size_zeroCells, hzs, hk, List.size_toArray, hl1, hs, ← Nat.add_mul]
        congr 1
        omega
      · intro j x hx
        rw [Nat.zero_add]
        refine (World.cell?_alloc_at _ _ _ _ rfl).trans ?_
        have hj : j < (vs ++ c').length := (List.getElem?_eq_some_iff.1 hx).1
        rw [Array.getElem?_append_left (by simpa using hj)]
        simpa using hx
      · rw [reps_snoc]
        exact (hR.later hbl).app (hd.later hbl)
    · rw [List.append_nil, List.nodup_cons]
      refine ⟨fun hb => ?_, ?_⟩
      · rcases List.mem_append.1 hb with hb | hb
        · have := hR.lt _ hb; omega
        · have := hlt _ hb; omega
      · rw [List.nodup_append]
        exact ⟨hGn, hF', fun a ha b hb q => hdj b hb (by rw [← q]; exact hGF a ha)⟩
    · intro b hb
      rw [List.append_nil] at hb
      rcases List.mem_cons.1 hb with rfl | hb
      · exact Or.inr (Or.inr rfl)
      · rcases List.mem_append.1 hb with hb | hb
        · exact Or.inl (hGF b hb)
        · exact Or.inr (Or.inl hb)
  rcases h.slice with ⟨_, rfl, rfl, rfl, a, rfl⟩ | ⟨p, o, c, u, m, G, rfl, rfl, hnn, ho, hmn, _, vs, hr, hR⟩
  · refine grow a 0 [] [] (by omega) (by simp) ?_ .nil List.nodup_nil (by simp) rfl
    cases a with
    | none => exact run_firstCells_none W.drew i.size 0 0 0
    | some ad2 => exact run_firstCells_some W.drew i.size 0 ad2 0 0 [] (by simp) (fun j u h => by simp at h)
  · have hvl : vs.length = n * i.size := by rw [hR.len, reps_len, hk, hs]
    by_cases hroom : n + 1 ≤ c
    · have hroom2 : o + (n + 1) * i.size ≤ m := by
        have h1 := Nat.mul_le_mul_right i.size hroom
        have h2 := hnn.2.2
        rw [hk, ← hs] at h2
        omega
      have hsz : (n + 1) * i.size = n * i.size + i.size := by rw [Nat.add_mul, Nat.one_mul]
      have hr2 := run_append_room_src (P := P) W t t ty e i ht hi p o n c (.slice (some ad) 1 1) 1 c' hsr hroom (fun j hj => by
        obtain ⟨x, hx⟩ := ho.cell (o + n * i.size + j) (by omega)
        rw [hx]; rfl) (fun j hj => ho.frozen _)
      rw [List.nodup_cons] at hnd
      have hm : Marks (fun b => b = p) W (W.setCells p (o + n * i.size) c') := mks_scs (S := fun b => b = p) rfl _ _ _
      refine ⟨_, _, p :: ((G ++ F') ++ []), some p, hr2, ?_, ?_, ?_, ⟨hm.os, hm.tape, hm.output, hm.size, fun k hk hne => hm.block k hk (fun q => hne (by rw [q]))⟩, fun b hb => by injection hb with hb; rw [← hb]; simp⟩
      · refine Rep.row e sh p o (n + 1) c u m (vs ++ c') (es ++ d) (G ++ F') (own_scs _ _ _ ho) hnn.2.2 (by simp) ⟨by unfold maxLen; omega, hroom⟩ (rA_app ?_ ?_) ?_ .nil
        · exact World.rangeAt_setCells_apart hr _ _ _ (Or.inr (Or.inl (by omega)))
        · rw [hvl]; exact World.rangeAt_setCells_same _ _ _ _ (uthere ho _ _ (by omega))
        · rw [reps_snoc]
          refine (hR.keep hm fun b hb q => hnd.1 (by rw [← q]; exact hb)).app (hd.keep hm fun b hb q => hdj b hb (by rw [q]; simp))
      · rw [List.append_nil, List.nodup_cons]
        refine ⟨fun hb => ?_, ?_⟩
        · rcases List.mem_append.1 hb with hb | hb
          · exact hnd.1 hb
          · exact hdj _ hb (by simp)
        · rw [List.nodup_append]
          exact ⟨hnd.2, hF', fun a ha b hb q => hdj b hb (by rw [← q]; exact List.mem_cons_of_mem _ ha)⟩
      · intro b hb
        rw [List.append_nil] at hb
        rcases List.mem_cons.1 hb with rfl | hb
        · exact Or.inl (by simp)
        · rcases List.mem_append.1 hb with hb | hb
          · exact Or.inl (List.mem_cons_of_mem _ hb)
          · exact Or.inr (Or.inl hb)
    · rw [List.nodup_cons] at hnd
      exact grow (some ⟨p, o, none⟩) c vs G (by omega) hvl (run_firstCells_some W.drew i.size n ⟨p, o, none⟩ n c vs hvl (fun j x hx => by rw [Addr.add_mid]; simpa using hr j x hx)) hR hnd.2 (fun b hb => List.mem_cons_of_mem _ hb) rfl

/-- A box that is written: its cells. -/
structure WBox (W : World) (p : Nat) (u : TypeId) (cs : List Value) : Prop where
  own : OwnBlk W p u cs.length
  at_ : W.rangeAt p 0 cs
theorem WBox.later {W W' : World} {p : Nat} {u : TypeId} {cs : List Value} (h : WBox W p u cs) (hb : Below W.heap.size W W') : WBox W' p u cs := ⟨h.own.later hb, rA_later h.at_ h.own.lt hb⟩
theorem WBox.new (W : World) (cs : List Value) (u : TypeId) (p : Nat) (hp : p = W.heap.size) : WBox (W.alloc (.cells cs.toArray u)) p u cs :=
  ⟨OwnBlk.alloc_at3 W _ _ _ _ (by simp) hp, (LBox.new W cs.toArray u p hp).at_⟩
theorem WBox.get {W : World} {p : Nat} {u : TypeId} {cs : List Value} (h : WBox W p u cs) (j : Nat) (v : Value) (hv : cs[j]? = some v) : W.cell? ⟨p, j, none⟩ = some v := by
  have := h.at_ j v hv
  rwa [Nat.zero_add] at this
theorem WBox.mks {W W' : World} {S : Nat → Prop} {p : Nat} {u : TypeId} {cs : List Value} (h : WBox W p u cs) (hb : Marks S W W') (hp : ¬ S p) : WBox W' p u cs :=
  ⟨hb.own _ _ _ h.own, rA_same h.at_ fun _ _ => hb.cell h.own.lt hp _⟩
theorem WBox.set {W : World} {p : Nat} {u : TypeId} {cs : List Value} (h : WBox W p u cs) (j : Nat) (x : Value) (hj : j < cs.length) : WBox (W.setCell ⟨p, j, none⟩ x) p u (cs.set j x) := by
  refine ⟨by rw [List.length_set]; exact h.own.setCell _ _, fun i v hv => ?_⟩
  rw [Nat.zero_add]
  rw [List.getElem?_set] at hv
  by_cases e : j = i
  · subst e
    rw [if_pos rfl, if_pos hj] at hv
    injection hv with hv; subst hv
    exact sc_eq h.own _ hj _
  · rw [if_neg e] at hv
    exact (sc_ne _ _ _ _ _ _ (Or.inr (fun q => e q.symm))).trans (h.get i v hv)
theorem WBox.other {W : World} {p q : Nat} {u : TypeId} {cs : List Value} (h : WBox W p u cs) (hn : p ≠ q) (j : Nat) (x : Value) : WBox (W.setCell ⟨q, j, none⟩ x) p u cs :=
  h.mks (Marks.sc (S := fun b => b = q) W rfl j x) hn
/-- Some cells written at once. -/
theorem WBox.puts {W : World} {p : Nat} {u : TypeId} {x y z : List Value} (h : WBox W p u (x ++ (y ++ z))) (y' : List Value) (hl : y'.length = y.length) : WBox (W.setCells p x.length y') p u (x ++ (y' ++ z)) := by
  have e1 : (x ++ (y' ++ z)).length = (x ++ (y ++ z)).length := by simp [hl]
  obtain ⟨h1, h2⟩ := rA_cut h.at_
  obtain ⟨_, h3⟩ := rA_cut h2
  rw [Nat.zero_add] at h2 h3
  refine ⟨by rw [e1]; exact own_scs _ _ _ h.own, rA_app ?_ (rA_app ?_ ?_)⟩
  · exact World.rangeAt_setCells_apart h1 _ _ _ (Or.inr (Or.inl (by omega)))
  · rw [Nat.zero_add]; exact World.rangeAt_setCells_same _ _ _ _ (uthere h.own _ _ (by simp; omega))
  · rw [Nat.zero_add, hl]; exact World.rangeAt_setCells_apart h3 _ _ _ (Or.inr (Or.inr (by omega)))
theorem nd_join {A B : List Nat} {m : Nat} (ha : A.Nodup) (hb : B.Nodup) (h1 : ∀ x ∈ A, x < m) (h2 : ∀ x ∈ B, m ≤ x) : (A ++ B).Nodup := by
  rw [List.nodup_append]
  exact ⟨ha, hb, fun a ha b hb e => by have := h1 a ha; have := h2 b hb; omega⟩
theorem lo_join {A B : List Nat} {m : Nat} (h1 : ∀ x ∈ A, m ≤ x) (h2 : ∀ x ∈ B, m ≤ x) : ∀ x ∈ A ++ B, m ≤ x := fun x hx => (List.mem_append.1 hx).elim (h1 x) (h2 x)
end Go.Proofs.Ytikacjpbnoihjaa

namespace Go.Proofs.Ytikacjpbnoihjaa
open Go.RowKit Go.Deep

theorem Try.under_bytes : Try.prog.underlying 91 = some (.slice 5) := by kernel_rfl
theorem Try.info_byte : (Try.prog.info? 5).map (fun i => (i.zero, i.size, i.bytes)) = some (some (.int .u8 0), 1, 1) := by kernel_rfl
theorem uinfo {P : Program} {t : TypeId} {z : Value} {n b : Nat} (h : (P.info? t).map (fun i => (i.zero, i.size, i.bytes)) = some (some z, n, b)) : ∃ i, P.info? t = some i ∧ i.zero = some z ∧ i.size = n ∧ i.bytes = b := by
  cases hi : P.info? t with
  | none => rw [hi] at h; cases h
  | some i => rw [hi] at h; simp only [Option.map_some, Option.some.injEq, Prod.mk.injEq] at h; exact ⟨i, rfl, h.1, h.2.1, h.2.2⟩

/-- A row of bytes of one's own. -/
def By (W : World) (lo : Nat) (v : Value) (l : List UInt8) : Prop := W.ownsRow lo 5 1 v l.length (Pl.byV l)
theorem By.later {W W' : World} {lo : Nat} {v : Value} {l : List UInt8} (h : By W lo v l) (hb : Below W.heap.size W W') : By W' lo v l := owns_lt_later h hb
theorem By.nil (W : World) (lo : Nat) : By W lo (.slice none 0 0) [] := World.ownsRow_nil ..
theorem By.emp (W : World) (lo : Nat) (h : lo ≤ W.heap.size) : By (W.alloc (.cells #[] 5)) lo (.slice (some ⟨W.heap.size, 0, none⟩) 0 0) [] := World.ownsRow_made W #[] 0 h (by decide) rfl
theorem By.made (W : World) (lo : Nat) (c : UInt8) (h : lo ≤ W.heap.size) : By (W.alloc (.cells #[.int .u8 (c.toNat : Int)] 5)) lo (.slice (some ⟨W.heap.size, 0, none⟩) 1 1) [c] :=
  ⟨by simp [Pl.byV], .inr ⟨W.heap.size, 1, _, rfl, h, heap_alloc_new W _, Nat.le_refl _, by decide, rfl, rfl⟩⟩
theorem By.shape {W : World} {lo : Nat} {v : Value} {l : List UInt8} (h : By W lo v l) : ∃ a c, v = .slice a l.length c := by
  rcases h.2 with ⟨e, h0⟩ | ⟨g, cap, _, e, _⟩
  · exact ⟨none, 0, by rw [e, h0]⟩
  · exact ⟨_, _, e⟩
theorem By.str {W : World} {lo : Nat} {v : Value} {l : List UInt8} (h : By W lo v l) (h0 : 0 < l.length) : (convert 91 9 v).run Try.prog W = .ok (.string ⟨l.toArray⟩) W := by
  rcases h.2 with ⟨_, e⟩ | ⟨g, cap, cur, e, _, hg, hn, _, _, ht⟩
  · omega
  · rw [e]
    refine run_convert_bytes_back (P := Try.prog) W 91 9 5 ⟨g, 0, none⟩ cap l Try.under_bytes (by kernel_rfl) (by kernel_rfl) fun j hj => ?_
    have hx : (Pl.byV l)[j]? = some (.int .u8 (l[j].toNat : Int)) := by simp [Pl.byV, hj]
    have q : cur.toList[j]? = some (.int .u8 (l[j].toNat : Int)) := by rw [← hx, ← ht, List.getElem?_take, if_pos (by omega)]
    rw [show (Addr.add ⟨g, 0, none⟩ j) = ⟨g, j, none⟩ by rw [Addr.add_mid, Nat.zero_add]]
    simp only [World.cell?, hg]
    simpa using q
theorem By.str_any {W : World} {lo : Nat} {v : Value} {l : List UInt8} (h : By W lo v l) : (convert 91 9 v).run Try.prog W = .ok (.string ⟨l.toArray⟩) W := by
  rcases h.2 with ⟨e1, e⟩ | ⟨g, cap, cur, e, _, hg, hn, _, _, ht⟩
  · have : l = [] := List.eq_nil_of_length_eq_zero e
    subst this
    rw [e1, run_convert_bytes_string (P := Try.prog) W 91 9 5 none 0 0 Try.under_bytes (by kernel_rfl) (by kernel_rfl)]
    rfl
  · rw [e]
    refine run_convert_bytes_back (P := Try.prog) W 91 9 5 ⟨g, 0, none⟩ cap l Try.under_bytes (by kernel_rfl) (by kernel_rfl) fun j hj => ?_
    have hx : (Pl.byV l)[j]? = some (.int .u8 (l[j].toNat : Int)) := by simp [Pl.byV, hj]
    have q : cur.toList[j]? = some (.int .u8 (l[j].toNat : Int)) := by rw [← hx, ← ht, List.getElem?_take, if_pos (by omega)]
    rw [show (Addr.add ⟨g, 0, none⟩ j) = ⟨g, j, none⟩ by rw [Addr.add_mid, Nat.zero_add]]
    simp only [World.cell?, hg]
    simpa using q
theorem By.below {W w' : World} {a : World} {lo : Nat} {v : Value} {l : List UInt8} (h : By W lo v l) (hb : Below a.heap.size a W) (hg : W.grownBy w' v.ownBlock) (hlo : a.heap.size ≤ lo) : Below a.heap.size a w' :=
  Below.grown hb hg hb.size fun q hq => by have := (World.ownsRow.lt h q hq).1; omega
theorem by_push {w : World} {ops : Array Oper} {rest : List Oper} {o : Oper} {a : Act} {Q : Exit → Act → World → Prop} (hgd : o.guard = none) (s x : Operand)
    (ho : o.op = .call { callee := .builtin .append, args := #[s, x], argTypes := #[91, 91] }) (lo : Nat) (v : Value) (l : List UInt8) (hs : a.eval s = v) (hown : By w lo v l)
    (B m c : Nat) (news : List UInt8) (hx : a.eval x = .slice (some ⟨B, 0, none⟩) m c) (hl : news.length = m) (hnews : ∀ j u, (Pl.byV news)[j]? = some u → w.cell? ((⟨B, 0, none⟩ : Addr).add j) = some u)
    (hm : 0 < m) (h63 : l.length + m ≤ 1099511627776) (hlo : lo ≤ w.heap.size)
    (h : ∀ g cap w', By w' lo (.slice (some ⟨g, 0, none⟩) (l.length + m) cap) (l ++ news) → w.grownBy w' v.ownBlock → wpList Try.prog ops Q rest (a.put o.dst (.slice (some ⟨g, 0, none⟩) (l.length + m) cap)) w') : wpList Try.prog ops Q (o :: rest) a w := by
  obtain ⟨i0, hi, hz0, hz1, hz2⟩ := uinfo Try.info_byte
  refine wpList_append_lies w hgd s x 91 ho lo 5 i0 _ 1 1 Try.under_bytes hi hz0 hz1 hz2 rfl (by omega) v l.length (Pl.byV l) hs hown ⟨B, 0, none⟩ m c (Pl.byV news) hx (by rw [Pl.byV_len, hl, Nat.mul_one]) hnews
    (fun u hu => by obtain ⟨b, _, rfl⟩ := List.mem_map.1 hu; rfl) hm (by unfold maxLen; omega) (by omega) hlo _ rfl fun g cap w' q1 q2 _ _ => h g cap w' ?_ q2
  unfold By
  rw [Pl.byV_app, List.length_append, hl]
  exact q1
theorem by_step {w : World} {ops : Array Oper} {o : Oper} {a : Act} {K : Act → World → Prop} {Q : Exit → Act → World → Prop} {E : Prop} (hgd : o.guard = none) (s x : Operand)
    (ho : o.op = .call { callee := .builtin .append, args := #[s, x], argTypes := #[91, 91] }) (lo : Nat) (v : Value) (l : List UInt8) (hs : a.eval s = v) (hown : By w lo v l)
    (B m c : Nat) (news : List UInt8) (hx : a.eval x = .slice (some ⟨B, 0, none⟩) m c) (hl : news.length = m) (hnews : ∀ j u, (Pl.byV news)[j]? = some u → w.cell? ((⟨B, 0, none⟩ : Addr).add j) = some u)
    (hm : 0 < m) (h63 : l.length + m ≤ 1099511627776) (hlo : lo ≤ w.heap.size)
    (h : ∀ g cap w', By w' lo (.slice (some ⟨g, 0, none⟩) (l.length + m) cap) (l ++ news) → w.grownBy w' v.ownBlock → K (a.put o.dst (.slice (some ⟨g, 0, none⟩) (l.length + m) cap)) w') :
    if Region.wanted o (yielded ops a.tmps) = true then Oper.wp Try.prog o a w K Q else E := by
  obtain ⟨i0, hi, hz0, hz1, hz2⟩ := uinfo Try.info_byte
  refine step_append_lies w hgd s x 91 ho lo 5 i0 _ 1 1 Try.under_bytes hi hz0 hz1 hz2 rfl (by omega) v l.length (Pl.byV l) hs hown ⟨B, 0, none⟩ m c (Pl.byV news) hx (by rw [Pl.byV_len, hl, Nat.mul_one]) hnews
    (fun u hu => by obtain ⟨b, _, rfl⟩ := List.mem_map.1 hu; rfl) hm (by unfold maxLen; omega) (by omega) hlo _ rfl fun g cap w' q1 q2 _ _ => h g cap w' ?_ q2
  unfold By
  rw [Pl.byV_app, List.length_append, hl]
  exact q1
theorem by_run {w : World} {lo : Nat} {v : Value} {l : List UInt8} (hown : By w lo v l) (ty : TypeId)
    (B m c : Nat) (news : List UInt8) (hl : news.length = m) (cs : Array Value) (hcs : cs.toList = Pl.byV news) (hB : w.heap[B]? = some (.cells cs 5 (0, 0)))
    (hm : 0 < m) (h63 : l.length + m ≤ 1099511627776) (hlo : lo ≤ w.heap.size) :
    ∃ g cap w', (Builtin.append_ #[91, 91] ty #[v, .slice (some ⟨B, 0, none⟩) m c]).run Try.prog w = .ok (.slice (some ⟨g, 0, none⟩) (l.length + m) cap) w' ∧
      By w' lo (.slice (some ⟨g, 0, none⟩) (l.length + m) cap) (l ++ news) ∧ w.grownBy w' v.ownBlock := by
  obtain ⟨i0, hi, hz0, hz1, hz2⟩ := uinfo Try.info_byte
  obtain ⟨g, cap, w', h1, h2, h3, _⟩ := run_append_lies (P := Try.prog) w 91 ty lo 5 i0 _ 1 1 Try.under_bytes hi hz0 hz1 hz2 rfl (by omega) v l.length (Pl.byV l) hown ⟨B, 0, none⟩ m c (Pl.byV news) (by rw [Pl.byV_len, hl, Nat.mul_one]) (by rw [← hcs]; exact World.news_of_block hB)
    (fun u hu => by obtain ⟨b, _, rfl⟩ := List.mem_map.1 hu; rfl) hm (by unfold maxLen; omega) (by omega) hlo _ rfl
  refine ⟨g, cap, w', h1, ?_, h3⟩
  unfold By
  rw [Pl.byV_app, List.length_append, hl]
  exact h2
theorem hexs (n : Nat) (h : n < 16) : (Pl.hexd n).toNat = if n < 10 then 48 + n else 87 + n := by
  unfold Pl.hexd; split <;> rw [UInt8.toNat_ofNat'] <;> omega
def hexD : ByteArray := ⟨#[48, 49, 50, 51, 52, 53, 54, 55, 56, 57, 97, 98, 99, 100, 101, 102]⟩
theorem hexAt : ∀ n : Fin 16, (hexD.data.toList.getD n.1 0) = Pl.hexd n.1 := by decide
theorem hexIx (n : Nat) (h : n < hexD.size) : hexD[n] = Pl.hexd n := by
  have h' : n < 16 := h
  rw [← hexAt ⟨n, h'⟩]
  simp [hexD, h']
  rfl
theorem hexRun (n : Nat) (h : n < 16) (w : World) : (Instr.index 9 (.string ⟨#[48, 49, 50, 51, 52, 53, 54, 55, 56, 57, 97, 98, 99, 100, 101, 102]⟩) (.int .u8 (n : Int))).run Try.prog w = .ok (.int .u8 ((Pl.hexd n).toNat : Int)) w := by
  rw [run_index_string w 9 _ .u8 (n : Int) (by kernel_rfl), dif_pos ⟨by omega, by show (n : Int) < 16; omega⟩]
  have := hexIx n h
  simp only [hexD] at this
  simp only [Int.toNat_natCast]
  rw [this]

end Go.Proofs.Ytikacjpbnoihjaa
