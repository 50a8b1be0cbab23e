/-
  Data by cells: structs in the making, boxes, worlds behind a world.
-/
import Derived.BigQuiet
import Derived.Deep.RegionWith
import Derived.Test.YtjjobbalifjdkaaUA
namespace Go.Proofs.Ytjjobbalifjdkaa
open Go.RowKit Go.Deep

structure UPst (w : World) where
  W : World
  ok : Below w.heap.size w W
theorem upst_some (w : World) : Nonempty (UPst w) := ⟨⟨w, Below.refl _ _⟩⟩
theorem UPst.cell {w : World} (x : UPst w) {b j : Nat} {v : Value} (h : w.cell? ⟨b, j, none⟩ = some v) (hb : b < w.heap.size) : x.W.cell? ⟨b, j, none⟩ = some v := (x.ok.cell (p := ⟨b, j, none⟩) hb).trans h
theorem UPst.size {w : World} (x : UPst w) {b : Nat} (h : b < w.heap.size) : b < x.W.heap.size := Nat.lt_of_lt_of_le h x.ok.size
theorem UPst.range {w : World} (x : UPst w) {b o : Nat} {cs : List Value} (h : w.rangeAt b o cs) (hb : b < w.heap.size) : x.W.rangeAt b o cs := rA_later h hb x.ok
theorem uregion {P : Program} {id : Nat} {Q : Exit → Act → World → Prop} {a : Act} {w : World} {l : List Oper} (v : World) (hv : Below v.heap.size v w) (hm : P.follows .mixedOrders = true) (hB : Region.lexB .any l.toArray = true)
    (h : wpQuiet P l.toArray (fun w' => ∃ x : UPst v, w' = x.W) (fun a' => ∀ w', (∃ x : UPst v, w' = x.W) → Q .normal a' w') l a) : (Code.region id l.toArray true).wp P Q a w :=
  wp_region_quiet (C := fun w' => ∃ x : UPst v, w' = x.W) hm hB ⟨⟨w.drew, Below.drew hv⟩, rfl⟩ (by simpa using h)

/-- A whole struct is loaded, in each world behind v. -/
theorem uq_load {P : Program} {o : Oper} {a : Act} {v : World} {K : Act → Prop} (ty : TypeId) (x : Operand) (ho : o.op = .load ty x) (b off : Nat) (hx : a.eval x = .pointer (some ⟨b, off, none⟩)) (cs : List Value) (d : TypeDesc) (hr : v.rangeAt b off cs) (hb : b < v.heap.size)
    (hu : P.underlying ty = some d) (hd : d.isRow = true) (hi : (P.info? ty).map (·.size) = some cs.length) (h : K (a.put o.dst (.agg cs.toArray))) : o.quiet P a (fun w' => ∃ x : UPst v, w' = x.W) K := by
  refine ⟨.agg cs.toArray, ?_, h⟩
  rintro w ⟨px, rfl⟩
  unfold Oper.quietAt execOp
  simp only [ho, hx, Instr.loadAt, Instr.sureAddr, Sem.run_bind, Sem.run_pure, Result.andThen_ok, run_loadVar_mid px.W b off ty cs d (px.range hr hb) hu hd hi]
  exact ⟨rfl, rfl⟩

/-- Texts of a length that a machine can bear. -/
def szd : List Dt → Prop
  | [] => True
  | .row _ es :: ds => szd es ∧ szd ds
  | .i _ :: ds => szd ds
  | .b _ :: ds => szd ds
  | .s t :: ds => t.size ≤ maxLen ∧ szd ds
theorem szd_app : ∀ (a b : List Dt), szd (a ++ b) ↔ szd a ∧ szd b
  | [], b => by simp [szd]
  | .row n es :: ds, b => by rw [List.cons_append, szd, szd, szd_app ds b, and_assoc]
  | .i _ :: ds, b => by rw [List.cons_append, szd, szd, szd_app ds b]
  | .b _ :: ds, b => by rw [List.cons_append, szd, szd, szd_app ds b]
  | .s _ :: ds, b => by rw [List.cons_append, szd, szd, szd_app ds b, and_assoc]
theorem szd_el {k q : Nat} {es : List Dt} (h : szd es) : szd (el k q es) := by
  rw [el_cut k q es, szd_app, szd_app] at h; exact h.2.1
theorem Raw.of_each {W : World} {b off : Nat} {sh : List Sh} : ∀ (n : Nat), (∀ i, i < n → ∃ ds cs, Raw W sh ds cs ∧ szd ds ∧ W.rangeAt b (off + i * sh.length) cs) → ∃ es vs, Raw W (reps n sh) es vs ∧ szd es ∧ W.rangeAt b off vs
  | 0, _ => ⟨[], [], by rw [reps_zero]; exact .nil, by simp [szd], rA_nil _ _ _⟩
  | n + 1, h => by
    obtain ⟨es, vs, r, z, hr⟩ := Raw.of_each n fun i hi => h i (by omega)
    obtain ⟨d, c, r1, z1, hr1⟩ := h n (by omega)
    refine ⟨es ++ d, vs ++ c, by rw [reps_snoc]; exact r.app r1, (szd_app _ _).2 ⟨z, z1⟩, rA_app hr ?_⟩
    rw [r.len, reps_len]; exact hr1
theorem wt_le (m : Nat) (es : List Dt) : wtL (es.take m) ≤ wtL es := by
  have : wtL es = wtL (es.take m ++ es.drop m) := by rw [List.take_append_drop]
  rw [this, wtL_app]; omega
theorem wt_next (k q : Nat) (es : List Dt) : wtL (es.take ((q + 1) * k)) = wtL (es.take (q * k)) + wtL (el k q es) := by
  rw [Nat.succ_mul, el_take, wtL_app]

theorem rA_cons {w : World} {b o : Nat} {x : Value} {y : List Value} (h : w.rangeAt b o (x :: y)) : w.cell? ⟨b, o, none⟩ = some x ∧ w.rangeAt b (o + 1) y := by
  refine ⟨?_, ?_⟩
  · have := h 0 x rfl; rwa [Nat.add_zero] at this
  · exact (rA_cut (x := [x]) h).2
theorem LBox.mks {W W' : World} {S : Nat → Prop} {p : Nat} {cs : List Value} (h : LBox W p cs) (hb : Marks S W W') (hp : ¬ S p) : LBox W' p cs :=
  ⟨Nat.lt_of_lt_of_le h.lt hb.size, rA_same h.at_ fun _ _ => hb.cell h.lt hp _⟩
theorem uthere {W : World} {p : Nat} {t : TypeId} {n : Nat} (h : OwnBlk W p t n) (o k : Nat) (hk : o + k ≤ n) : W.there p o k := fun j hj => by
  obtain ⟨v, hv⟩ := h.cell (o + j) (by omega)
  exact ⟨by rw [hv]; rfl, h.frozen _⟩
theorem own_scs {p q : Nat} {t : TypeId} {n : Nat} : ∀ (cs : List Value) (o : Nat) (W : World), OwnBlk W p t n → OwnBlk (W.setCells q o cs) p t n
  | [], _, _, h => h
  | v :: vs, o, W, h => by
    rw [World.setCells]
    refine own_scs vs (o + 1) _ ?_
    by_cases e : p = q
    · subst e; exact h.setCell o v
    · exact h.sc_other e o v
theorem blw_scs {a : World} {q : Nat} (hq : a.heap.size ≤ q) : ∀ (cs : List Value) (o : Nat) (W : World), Below a.heap.size a W → Below a.heap.size a (W.setCells q o cs)
  | [], _, _, h => h
  | v :: vs, o, W, h => by rw [World.setCells]; exact blw_scs hq vs (o + 1) _ (h.setCell (p := ⟨q, o, none⟩) hq v)
theorem mks_scs {S : Nat → Prop} {q : Nat} (hq : S q) : ∀ (cs : List Value) (o : Nat) (W : World), Marks S W (W.setCells q o cs)
  | [], _, W => Marks.refl S W
  | v :: vs, o, W => by rw [World.setCells]; exact (Marks.sc W hq o v).trans (mks_scs hq vs (o + 1) _)

theorem LBox.other_ {W : World} {p q : Nat} {cs : List Value} (h : LBox W p cs) (hn : p ≠ q) (j : Nat) (x : Value) : LBox (W.setCell ⟨q, j, none⟩ x) p cs :=
  h.mks (Marks.sc (S := fun b => b = q) W rfl j x) hn
theorem OwnBlk.alloc_at3 (W : World) (cs : Array Value) (t : TypeId) (m n : Nat) (h : cs.size = m) (hn : n = W.heap.size) : OwnBlk (W.alloc (.cells cs t)) n t m := by
  subst hn; exact OwnBlk.alloc W cs t m h
theorem wt_ints0 : ∀ {n : Nat} {es : List Dt}, Typ (reps n [.i]) es → wtL es = 0
  | 0, es, h => by rw [reps_zero] at h; rw [h.c_n, wtL]
  | n + 1, es, h => by
    rw [reps_succ] at h
    obtain ⟨d1, d2, rfl, h1, h2⟩ := Typ.cut _ h
    obtain ⟨a, x, rfl, h3⟩ := h1.c_i
    obtain rfl := h3.c_n
    rw [wtL_app, wt_ints0 h2]; simp [wtL]
theorem wt_ints {t : TypeId} {n : Nat} {es : List Dt} (h : Typ [.row t [.i]] [.row n es]) : wtL es = 0 := by
  obtain ⟨_, _, _, e, h, _⟩ := h.c_r
  injection e with e1 e2; injection e1 with e3 e4; subst e3; subst e4
  exact wt_ints0 h

/-- A struct in the making: block q; what is there so far. -/
structure Bld (W : World) (q : Nat) (u : TypeId) (kk : Nat) (ss : List Sh) (F : List Nat) (ds : List Dt) (D : List Value) : Prop where
  rep : Rep W true ss F ds D
  nd : F.Nodup
  fr : ∀ b ∈ F, q < b
  own : OwnBlk W q u kk
  at_ : W.rangeAt q 0 D
theorem Bld.nil {W : World} {q : Nat} {u : TypeId} {kk : Nat} (h : OwnBlk W q u kk) : Bld W q u kk [] [] [] [] := ⟨.nil, List.nodup_nil, by simp, h, rA_nil _ _ _⟩
theorem Bld.later {W W' : World} {q : Nat} {u : TypeId} {kk : Nat} {ss : List Sh} {F : List Nat} {ds : List Dt} {D : List Value} (h : Bld W q u kk ss F ds D) (hb : Below W.heap.size W W') : Bld W' q u kk ss F ds D :=
  ⟨h.rep.later hb, h.nd, h.fr, h.own.later hb, rA_later h.at_ h.own.lt hb⟩
theorem Bld.len {W : World} {q : Nat} {u : TypeId} {kk : Nat} {ss : List Sh} {F : List Nat} {ds : List Dt} {D : List Value} (h : Bld W q u kk ss F ds D) : D.length = ss.length := h.rep.len
/-- One part more, made behind the others. -/
theorem Bld.put {W : World} {q : Nat} {u : TypeId} {kk : Nat} {ss : List Sh} {F : List Nat} {ds : List Dt} {D : List Value} (h : Bld W q u kk ss F ds D) {j m : Nat} {ss' : List Sh} {F' : List Nat} {ds' : List Dt} {D' : List Value} (hj : ss.length = j) (r : Rep W true ss' F' ds' D') (nd : F'.Nodup) (fr : ∀ b ∈ F', m ≤ b) (hF : ∀ b ∈ F, b < m) (hq : q < m) (hk : j + ss'.length ≤ kk) :
    Bld (W.setCells q j D') q u kk (ss ++ ss') (F ++ F') (ds ++ ds') (D ++ D') := by
  have hm : Marks (fun b => b = q) W (W.setCells q j D') := mks_scs (S := fun b => b = q) rfl D' j W
  have hl := h.len
  have hl' := r.len
  refine ⟨(h.rep.keep hm fun b hb e => ?_).app (r.keep hm fun b hb e => ?_), ?_, ?_, own_scs _ _ _ h.own, rA_app ?_ ?_⟩
  · have := h.fr b hb; omega
  · have := fr b hb; omega
  · rw [List.nodup_append]
    exact ⟨h.nd, nd, fun a ha b hb e => by have := hF a ha; have := fr b hb; omega⟩
  · intro b hb
    rcases List.mem_append.1 hb with hb | hb
    · exact h.fr b hb
    · have := fr b hb; omega
  · exact World.rangeAt_setCells_apart h.at_ _ _ _ (Or.inr (Or.inl (by omega)))
  · have : 0 + D.length = j := by omega
    rw [this]
    exact World.rangeAt_setCells_same _ _ _ _ (uthere h.own _ _ (by omega))
theorem Bld.put1 {W : World} {q : Nat} {u : TypeId} {kk : Nat} {ss : List Sh} {F : List Nat} {ds : List Dt} {D : List Value} (h : Bld W q u kk ss F ds D) {j : Nat} {x : Sh} {d : Dt} {v : Value} (hj : ss.length = j) (r : Rep W true [x] [] [d] [v]) (hk : j < kk) :
    Bld (W.setCell ⟨q, j, none⟩ v) q u kk (ss ++ [x]) F (ds ++ [d]) (D ++ [v]) := by
  have := h.put hj r List.nodup_nil (by simp) (m := W.heap.size) (fun b hb => h.rep.lt b hb) h.own.lt (by show j + 1 ≤ kk; omega)
  rwa [List.append_nil] at this
end Go.Proofs.Ytjjobbalifjdkaa
