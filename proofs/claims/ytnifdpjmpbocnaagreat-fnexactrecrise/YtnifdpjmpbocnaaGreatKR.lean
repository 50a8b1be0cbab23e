/-
  A recorder in a variable, in memory of its own, that is changed field by field.
-/
import Derived.Test.YtnifdpjmpbocnaaGreatKWp
namespace Go.Proofs.YtnifdpjmpbocnaaGreat
open Go.RowKit Go.Deep

theorem Rep.seti {W : World} {tt : Bool} {ss : List Sh} {F : List Nat} {ds : List Dt} {cs : List Value} (h : Rep W tt ss F ds cs) : ∀ (j : Nat) (m : Int), ss[j]? = some .i → Rep W tt ss F (ds.set j (.i m)) (cs.set j (.int .i64 m)) := by
  induction h with
  | nil => intro j m hj; simp at hj
  | i n h ih => intro j m hj; cases j with
    | zero => exact .i m h
    | succ j => exact .i n (ih j m (by simpa using hj))
  | b n h ih => intro j m hj; cases j with
    | zero => simp at hj
    | succ j => exact .b n (ih j m (by simpa using hj))
  | s n h ih => intro j m hj; cases j with
    | zero => simp at hj
    | succ j => exact .s n (ih j m (by simpa using hj))
  | emp t sh a ht h ih => intro j m hj; cases j with
    | zero => simp at hj
    | succ j => exact .emp t sh a ht (ih j m (by simpa using hj))
  | row t sh p o n c u k vs es G ho hm ht hn hr he h ih1 ih => intro j m hj; cases j with
    | zero => simp at hj
    | succ j => exact .row t sh p o n c u k vs es G ho hm ht hn hr he (ih j m (by simpa using hj))
theorem Rep.setb {W : World} {tt : Bool} {ss : List Sh} {F : List Nat} {ds : List Dt} {cs : List Value} (h : Rep W tt ss F ds cs) : ∀ (j : Nat) (m : Bool), ss[j]? = some .b → Rep W tt ss F (ds.set j (.b m)) (cs.set j (.bool m)) := by
  induction h with
  | nil => intro j m hj; simp at hj
  | i n h ih => intro j m hj; cases j with
    | zero => simp at hj
    | succ j => exact .i n (ih j m (by simpa using hj))
  | b n h ih => intro j m hj; cases j with
    | zero => exact .b m h
    | succ j => exact .b n (ih j m (by simpa using hj))
  | s n h ih => intro j m hj; cases j with
    | zero => simp at hj
    | succ j => exact .s n (ih j m (by simpa using hj))
  | emp t sh a ht h ih => intro j m hj; cases j with
    | zero => simp at hj
    | succ j => exact .emp t sh a ht (ih j m (by simpa using hj))
  | row t sh p o n c u k vs es G ho hm ht hn hr he h ih1 ih => intro j m hj; cases j with
    | zero => simp at hj
    | succ j => exact .row t sh p o n c u k vs es G ho hm ht hn hr he (ih j m (by simpa using hj))
theorem Rep.sete {W : World} {ss : List Sh} {F : List Nat} {ds : List Dt} {cs : List Value} (h : Rep W false ss F ds cs) : ∀ (j : Nat) (a : Option Addr) (t : TypeId) (sh : List Sh), ss[j]? = some (.row t sh) → ∃ F', Rep W false ss F' (ds.set j (.row 0 [])) (cs.set j (.slice a 0 0)) ∧ F'.Sublist F := by
  induction h with
  | nil => intro j a t sh hj; simp at hj
  | i n h ih => intro j a t sh hj; cases j with
    | zero => simp at hj
    | succ j => obtain ⟨F', r, s⟩ := ih j a t sh (by simpa using hj); exact ⟨F', .i n r, s⟩
  | b n h ih => intro j a t sh hj; cases j with
    | zero => simp at hj
    | succ j => obtain ⟨F', r, s⟩ := ih j a t sh (by simpa using hj); exact ⟨F', .b n r, s⟩
  | s n h ih => intro j a t sh hj; cases j with
    | zero => simp at hj
    | succ j => obtain ⟨F', r, s⟩ := ih j a t sh (by simpa using hj); exact ⟨F', .s n r, s⟩
  | @emp t' sh' a' ht ss F ds cs h ih => intro j a t sh hj; cases j with
    | zero => exact ⟨F, .emp t' sh' a rfl h, List.Sublist.refl _⟩
    | succ j => obtain ⟨F', r, s⟩ := ih j a t sh (by simpa using hj); exact ⟨F', .emp t' sh' a' ht r, s⟩
  | @row t' sh' p o n c u k vs es G ho hm ht hn hr he ss F ds cs h ih1 ih => intro j a t sh hj; cases j with
    | zero => exact ⟨F, .emp t' sh' a rfl h, (List.sublist_append_right G F).cons _⟩
    | succ j =>
      obtain ⟨F', r, s⟩ := ih j a t sh (by simpa using hj)
      exact ⟨p :: (G ++ F'), .row t' sh' p o n c u k vs es G ho hm ht hn hr he r, (List.Sublist.append_left s G).cons_cons p⟩

theorem Rep.geti {W : World} {tt : Bool} {ss : List Sh} {F : List Nat} {ds : List Dt} {cs : List Value} (h : Rep W tt ss F ds cs) : ∀ (j : Nat) (m : Int), ds[j]? = some (.i m) → cs[j]? = some (.int .i64 m) := by
  induction h with
  | nil => intro j m hj; simp at hj
  | i n h ih => intro j m hj; cases j with
    | zero => simp at hj; subst hj; rfl
    | succ j => simpa using ih j m (by simpa using hj)
  | b n h ih => intro j m hj; cases j with
    | zero => simp at hj
    | succ j => simpa using ih j m (by simpa using hj)
  | s n h ih => intro j m hj; cases j with
    | zero => simp at hj
    | succ j => simpa using ih j m (by simpa using hj)
  | emp t sh a ht h ih => intro j m hj; cases j with
    | zero => simp at hj
    | succ j => simpa using ih j m (by simpa using hj)
  | row t sh p o n c u k vs es G ho hm ht hn hr he h ih1 ih => intro j m hj; cases j with
    | zero => simp at hj
    | succ j => simpa using ih j m (by simpa using hj)
theorem Rep.getb {W : World} {tt : Bool} {ss : List Sh} {F : List Nat} {ds : List Dt} {cs : List Value} (h : Rep W tt ss F ds cs) : ∀ (j : Nat) (m : Bool), ds[j]? = some (.b m) → cs[j]? = some (.bool m) := by
  induction h with
  | nil => intro j m hj; simp at hj
  | i n h ih => intro j m hj; cases j with
    | zero => simp at hj
    | succ j => simpa using ih j m (by simpa using hj)
  | b n h ih => intro j m hj; cases j with
    | zero => simp at hj; subst hj; rfl
    | succ j => simpa using ih j m (by simpa using hj)
  | s n h ih => intro j m hj; cases j with
    | zero => simp at hj
    | succ j => simpa using ih j m (by simpa using hj)
  | emp t sh a ht h ih => intro j m hj; cases j with
    | zero => simp at hj
    | succ j => simpa using ih j m (by simpa using hj)
  | row t sh p o n c u k vs es G ho hm ht hn hr he h ih1 ih => intro j m hj; cases j with
    | zero => simp at hj
    | succ j => simpa using ih j m (by simpa using hj)

/-- A recorder in a variable, all of it behind the base. -/
structure RB (base W : World) (p : Nat) (F : List Nat) (K : Rr) (cs : List Value) : Prop where
  box : WBox W p 38 cs
  rep : Rep W false shRecorder F (eRr K) cs
  nd : F.Nodup
  np : p ∉ F
  lo : ∀ b ∈ F, base.heap.size ≤ b
  plo : base.heap.size ≤ p
  bel : Below base.heap.size base W
theorem RB.len {base W : World} {p : Nat} {F : List Nat} {K : Rr} {cs : List Value} (h : RB base W p F K cs) : cs.length = 18 := h.rep.len
theorem RB.lt {base W : World} {p : Nat} {F : List Nat} {K : Rr} {cs : List Value} (h : RB base W p F K cs) : p < W.heap.size := h.box.own.lt
theorem RB.fro {base W : World} {p : Nat} {F : List Nat} {K : Rr} {cs : List Value} (h : RB base W p F K cs) (j : Nat) : W.frozen? ⟨p, j, none⟩ = false := h.box.own.frozen j
theorem RB.cell {base W : World} {p : Nat} {F : List Nat} {K : Rr} {cs : List Value} (h : RB base W p F K cs) (j : Nat) (hj : j < 18) : ∃ v, W.cell? ⟨p, j, none⟩ = some v := h.box.own.cell j (by rw [h.len]; exact hj)
theorem RB.geti {base W : World} {p : Nat} {F : List Nat} {K : Rr} {cs : List Value} (h : RB base W p F K cs) (j : Nat) (m : Int) (hj : (eRr K)[j]? = some (.i m)) : W.cell? ⟨p, j, none⟩ = some (.int .i64 m) := h.box.get j _ (h.rep.geti j m hj)
theorem RB.getb {base W : World} {p : Nat} {F : List Nat} {K : Rr} {cs : List Value} (h : RB base W p F K cs) (j : Nat) (m : Bool) (hj : (eRr K)[j]? = some (.b m)) : W.cell? ⟨p, j, none⟩ = some (.bool m) := h.box.get j _ (h.rep.getb j m hj)
theorem RB.later {base W W' : World} {p : Nat} {F : List Nat} {K : Rr} {cs : List Value} (h : RB base W p F K cs) (hb : Below W.heap.size W W') : RB base W' p F K cs :=
  ⟨h.box.later hb, h.rep.later hb, h.nd, h.np, h.lo, h.plo, blw_trans h.bel hb⟩
theorem RB.seti {base W : World} {p : Nat} {F : List Nat} {K : Rr} {cs : List Value} (h : RB base W p F K cs) (j : Nat) (m : Int) (K' : Rr) (hs : shRecorder[j]? = some .i) (hj : j < 18) (he : (eRr K).set j (.i m) = eRr K') :
    RB base (W.setCell ⟨p, j, none⟩ (.int .i64 m)) p F K' (cs.set j (.int .i64 m)) := by
  have hM : Marks (fun b => b = p) W (W.setCell ⟨p, j, none⟩ (.int .i64 m)) := Marks.sc (S := fun b => b = p) W rfl _ _
  refine ⟨h.box.set j _ (by rw [h.len]; exact hj), ?_, h.nd, h.np, h.lo, h.plo, hM.below (fun b e => by rw [e]; exact h.plo) h.bel⟩
  rw [← he]
  exact (h.rep.seti j m hs).keep hM (fun b hb e => h.np (by rw [← e]; exact hb))
theorem RB.setb {base W : World} {p : Nat} {F : List Nat} {K : Rr} {cs : List Value} (h : RB base W p F K cs) (j : Nat) (m : Bool) (K' : Rr) (hs : shRecorder[j]? = some .b) (hj : j < 18) (he : (eRr K).set j (.b m) = eRr K') :
    RB base (W.setCell ⟨p, j, none⟩ (.bool m)) p F K' (cs.set j (.bool m)) := by
  have hM : Marks (fun b => b = p) W (W.setCell ⟨p, j, none⟩ (.bool m)) := Marks.sc (S := fun b => b = p) W rfl _ _
  refine ⟨h.box.set j _ (by rw [h.len]; exact hj), ?_, h.nd, h.np, h.lo, h.plo, hM.below (fun b e => by rw [e]; exact h.plo) h.bel⟩
  rw [← he]
  exact (h.rep.setb j m hs).keep hM (fun b hb e => h.np (by rw [← e]; exact hb))
theorem RB.sete {base W : World} {p : Nat} {F : List Nat} {K : Rr} {cs : List Value} (h : RB base W p F K cs) (j : Nat) (a : Option Addr) (K' : Rr) (t : TypeId) (sh : List Sh) (hs : shRecorder[j]? = some (.row t sh)) (hj : j < 18) (he : (eRr K).set j (.row 0 []) = eRr K') :
    ∃ F', RB base (W.setCell ⟨p, j, none⟩ (.slice a 0 0)) p F' K' (cs.set j (.slice a 0 0)) ∧ F'.Sublist F := by
  have hM : Marks (fun b => b = p) W (W.setCell ⟨p, j, none⟩ (.slice a 0 0)) := Marks.sc (S := fun b => b = p) W rfl _ _
  obtain ⟨F', r, s⟩ := h.rep.sete j a t sh hs
  have sub : ∀ b, b ∈ F' → b ∈ F := fun b hb => s.subset hb
  refine ⟨F', ⟨h.box.set j _ (by rw [h.len]; exact hj), ?_, s.nodup h.nd, fun q => h.np (sub _ q), fun b hb => h.lo b (sub b hb), h.plo, hM.below (fun b e => by rw [e]; exact h.plo) h.bel⟩, s⟩
  rw [← he]
  exact r.keep hM (fun b hb e => h.np (by rw [← e]; exact sub b hb))
theorem RB.put {base W : World} {p : Nat} {F F' : List Nat} {K K' : Rr} {cs cs' : List Value} (h : RB base W p F K cs) (r : Rep W false shRecorder F' (eRr K') cs') (nd : F'.Nodup) (np : p ∉ F') (lo : ∀ b ∈ F', base.heap.size ≤ b) : RB base (W.setCells p 0 cs') p F' K' cs' := by
  have hl : cs'.length = cs.length := (show cs'.length = 18 from r.len).trans h.len.symm
  refine ⟨⟨by rw [hl]; exact own_scs cs' 0 _ h.box.own, World.rangeAt_setCells_same _ _ _ _ (by rw [hl]; exact uthere h.box.own _ _ (by omega))⟩, ?_, nd, np, lo, h.plo, blw_scs h.plo _ _ _ h.bel⟩
  exact r.keep (S := fun b => b = p) (mks_scs (S := fun b => b = p) rfl _ _ _) (fun b hb e => np (by rw [← e]; exact hb))
/-- A new box for a recorder in memory of its own. -/
theorem RB.new {base W : World} {F : List Nat} {K : Rr} {cs : List Value} (h : Rep W false shRecorder F (eRr K) cs) (hnd : F.Nodup) (hF : ∀ b ∈ F, base.heap.size ≤ b) (hb : Below base.heap.size base W) (p : Nat) (hp : p = W.heap.size) : RB base (W.alloc (.cells cs.toArray 38)) p F K cs :=
  have hB : Below W.heap.size W (W.alloc (.cells cs.toArray 38)) := blw_alloc (Below.refl _ _) _
  ⟨WBox.new W cs _ p hp, h.later hB, hnd, fun q => by have := h.lt p q; omega, hF, by rw [hp]; exact hb.size, blw_trans hb hB⟩

def calmK (K : Rr) : Rr := { K with lead := false, try_ := false, bal := 0, yes := [], best := [], acks := [] }
def promK (K : Rr) (b : Int) : Rr := { K with disk := { K.disk with prom := b } }
def followK (K : Rr) (b : Int) : Rr := { (if b = K.bal then promK K (if K.disk.prom < b then b else K.disk.prom) else calmK (promK K (if K.disk.prom < b then b else K.disk.prom))) with heard := 0 }
end Go.Proofs.YtnifdpjmpbocnaaGreat
