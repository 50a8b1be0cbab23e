/-
  Sheets: what is left out, said: by the specification.
-/
import Derived.Test.YtfmhfacaemfhlaaELc
import Derived.Test.YtfmhfacaemfhlaaEFp
namespace Go.Proofs.Ytfmhfacaemfhlaa
open Go.RowKit Go.Deep


/-- While a sheet is laid over another one. -/
structure Ov (w : World) (b0 px : Nat) (uv ov : Value) (acc : List Pl.Bl) (xv : Value) (W : World) : Prop where
  bel : Below w.heap.size w W
  ub : LBox W b0 [uv]
  ob : LBox W (b0 + 1) [ov]
  res : WBox W (b0 + 2) 28 [.slice none 0 0]
  x : WBox W px 28 [xv]
  dat : Dat (fun _ => True) b0 (px + 1) W shBls [blsD acc] [xv]
theorem Ov.later {w W W' : World} {b0 px : Nat} {uv ov xv : Value} {acc : List Pl.Bl} (h : Ov w b0 px uv ov acc xv W) (hb : Below W.heap.size W W') : Ov w b0 px uv ov acc xv W' := ⟨blw_trans h.bel hb, h.ub.later hb, h.ob.later hb, h.res.later hb, h.x.later hb, h.dat.later hb⟩
theorem Ov.put {w W : World} {b0 px : Nat} {uv ov xv yv : Value} {acc acc' : List Pl.Bl} (h : Ov w b0 px uv ov acc xv W) (hb : b0 = w.heap.size) (hp : b0 + 3 ≤ px) (hd : Dat (fun _ => True) b0 (px + 1) W shBls [blsD acc'] [yv]) : Ov w b0 px uv ov acc' yv (W.setCells px 0 [yv]) := by
  have hm : Marks (fun b => b = px) W (W.setCells px 0 [yv]) := mks_scs (S := fun b => b = px) rfl _ _ _
  exact ⟨hm.below (fun b e => by omega) h.bel, h.ub.mks hm (by omega), h.ob.mks hm (by omega), h.res.mks hm (by omega), ⟨own_scs _ _ _ h.x.own, World.rangeAt_setCells_same _ _ _ _ (uthere h.x.own _ _ (by simp))⟩, hd.keep hm fun b e => by omega⟩
theorem Ov.mks {w W W' : World} {b0 px pb : Nat} {uv ov xv : Value} {acc : List Pl.Bl} (h : Ov w b0 px uv ov acc xv W) (hb : b0 = w.heap.size) (hx : b0 + 3 ≤ px) (hp : px < pb) (hm : Marks (fun b => b = pb) W W') (hd : Dat (fun _ => True) b0 (px + 1) W' shBls [blsD acc] [xv]) : Ov w b0 px uv ov acc xv W' :=
  ⟨hm.below (fun b e => by omega) h.bel, h.ub.mks hm (by omega), h.ob.mks hm (by omega), h.res.mks hm (by omega), h.x.mks hm (by omega), hd⟩
def VOv (b0 : Nat) (px : Nat) (pb : Nat) (p : Nat) (o2 : Nat) (uc : Nat) (j : Nat) (u : List Pl.Bl) (y : Pl.Bl) (z : Pl.Bl) (ya : Option Addr) (za : Option Addr) (yc : Nat) (zc : Nat) : Nat → Value → World → Prop
  | 0, vv, _ => vv = .pointer (some ⟨b0, 0, none⟩)
  | 1, vv, _ => vv = .slice (some ⟨p, o2, none⟩) u.length uc
  | 2, vv, _ => vv = .int .i64 (j : Int)
  | 3, vv, _ => vv = .pointer (some ⟨p, o2 + j * 3, none⟩)
  | 4, vv, _ => vv = .agg #[.string z.kind, .string z.name, .slice za z.lines.length zc]
  | 5, vv, _ => vv = .agg #[.string y.kind, .string y.name, .slice ya y.lines.length yc]
  | 6, vv, W => ∃ c, vv = .agg c.toArray ∧ Dat (fun b => (True ∧ b < b0) ∨ px + 1 ≤ b) pb (pb + 1) W shSheetBlock (blD (Pl.ovBl z y)) c
  | _, _, _ => True
theorem VOv_mono (b0 : Nat) (px : Nat) (pb : Nat) (p : Nat) (o2 : Nat) (uc : Nat) (j : Nat) (u : List Pl.Bl) (y : Pl.Bl) (z : Pl.Bl) (ya : Option Addr) (za : Option Addr) (yc : Nat) (zc : Nat) : ∀ jj vv W W', Below W.heap.size W W' → VOv b0 px pb p o2 uc j u y z ya za yc zc jj vv W → VOv b0 px pb p o2 uc j u y z ya za yc zc jj vv W' := by
  intro jj vv W W' hb h
  match jj with
  | 0 => exact h
  | 1 => exact h
  | 2 => exact h
  | 3 => exact h
  | 4 => exact h
  | 5 => exact h
  | 6 =>
    obtain ⟨c, h1, h2⟩ := h
    exact ⟨c, h1, h2.later hb⟩
  | n + 7 => exact trivial
def VOw (b0 : Nat) (p : Nat) (o2 : Nat) (uc : Nat) (oc : Nat) (k : Nat) (u : List Pl.Bl) (o : List Pl.Bl) (z : Pl.Bl) (oa : Option Addr) : Nat → Value → World → Prop
  | 0, vv, _ => vv = .agg #[.slice oa o.length oc]
  | 1, vv, _ => vv = .pointer (some ⟨b0, 0, none⟩)
  | 2, vv, _ => vv = .slice (some ⟨p, o2, none⟩) u.length uc
  | 3, vv, _ => vv = .int .i64 (k : Int)
  | 4, vv, _ => vv = .pointer (some ⟨p, o2 + k * 3, none⟩)
  | 5, vv, _ => vv = .pointer (some ⟨p, o2 + k * 3, none⟩)
  | 6, vv, _ => vv = .string z.kind
  | 7, vv, _ => vv = .pointer (some ⟨b0, 0, none⟩)
  | 8, vv, _ => vv = .slice (some ⟨p, o2, none⟩) u.length uc
  | 9, vv, _ => vv = .int .i64 (k : Int)
  | 10, vv, _ => vv = .pointer (some ⟨p, o2 + k * 3, none⟩)
  | 11, vv, _ => vv = .pointer (some ⟨p, o2 + k * 3 + 1, none⟩)
  | 12, vv, _ => vv = .string z.name
  | 13, vv, _ => vv = .int .i64 (Pl.ixI (Pl.findB o z.kind z.name))
  | 14, vv, _ => vv = .bool (Pl.noIn o z)
  | _, _, _ => True
theorem VOw_mono (b0 : Nat) (p : Nat) (o2 : Nat) (uc : Nat) (oc : Nat) (k : Nat) (u : List Pl.Bl) (o : List Pl.Bl) (z : Pl.Bl) (oa : Option Addr) : ∀ jj vv W W', Below W.heap.size W W' → VOw b0 p o2 uc oc k u o z oa jj vv W → VOw b0 p o2 uc oc k u o z oa jj vv W' := by
  intro jj vv W W' hb h
  match jj with
  | 0 => exact h
  | 1 => exact h
  | 2 => exact h
  | 3 => exact h
  | 4 => exact h
  | 5 => exact h
  | 6 => exact h
  | 7 => exact h
  | 8 => exact h
  | 9 => exact h
  | 10 => exact h
  | 11 => exact h
  | 12 => exact h
  | 13 => exact h
  | 14 => exact h
  | n + 15 => exact trivial
def VOx (b0 : Nat) (px : Nat) (p : Nat) (o2 : Nat) (uc : Nat) (k : Nat) (u : List Pl.Bl) (acc : List Pl.Bl) (z : Pl.Bl) (xa : Option Addr) (za : Option Addr) (xc : Nat) (zc : Nat) : Nat → Value → World → Prop
  | 0, vv, _ => vv = .agg #[.slice xa acc.length xc]
  | 1, vv, _ => vv = .pointer (some ⟨b0, 0, none⟩)
  | 2, vv, _ => vv = .slice (some ⟨p, o2, none⟩) u.length uc
  | 3, vv, _ => vv = .int .i64 (k : Int)
  | 4, vv, _ => vv = .pointer (some ⟨p, o2 + k * 3, none⟩)
  | 5, vv, _ => vv = .agg #[.string z.kind, .string z.name, .slice za z.lines.length zc]
  | 6, vv, W => ∃ c, vv = .agg c.toArray ∧ Dat (fun _ => True) b0 (px + 1) W shSheet [blsD (Pl.putBl acc z)] c
  | _, _, _ => True
theorem VOx_mono (b0 : Nat) (px : Nat) (p : Nat) (o2 : Nat) (uc : Nat) (k : Nat) (u : List Pl.Bl) (acc : List Pl.Bl) (z : Pl.Bl) (xa : Option Addr) (za : Option Addr) (xc : Nat) (zc : Nat) : ∀ jj vv W W', Below W.heap.size W W' → VOx b0 px p o2 uc k u acc z xa za xc zc jj vv W → VOx b0 px p o2 uc k u acc z xa za xc zc jj vv W' := by
  intro jj vv W W' hb h
  match jj with
  | 0 => exact h
  | 1 => exact h
  | 2 => exact h
  | 3 => exact h
  | 4 => exact h
  | 5 => exact h
  | 6 =>
    obtain ⟨c, h1, h2⟩ := h
    exact ⟨c, h1, h2.later hb⟩
  | n + 7 => exact trivial

end Go.Proofs.Ytfmhfacaemfhlaa

namespace Go.Proofs.Ytfmhfacaemfhlaa
open Go.RowKit Go.Deep


/-- While a sheet's copy is worked on: the argument's variable, the answer's, the copy's, and the copy's row. -/
structure Xw (w : World) (b0 px p o n c lo : Nat) (sv : Value) (cur : List Pl.Bl) (W : World) : Prop where
  bel : Below w.heap.size w W
  arg : LBox W b0 [sv]
  res : WBox W (b0 + 1) 28 [.slice none 0 0]
  x : LBox W px [.slice (some ⟨p, o, none⟩) n c]
  row : RowX W p o lo cur
theorem Xw.later {w W W' : World} {b0 px p o n c lo : Nat} {sv : Value} {cur : List Pl.Bl} (h : Xw w b0 px p o n c lo sv cur W) (hb : Below W.heap.size W W') : Xw w b0 px p o n c lo sv cur W' := ⟨blw_trans h.bel hb, h.arg.later hb, h.res.later hb, h.x.later hb, h.row.later hb⟩
theorem Xw.put {w W : World} {b0 px p o n c lo N : Nat} {sv lv : Value} {cur : List Pl.Bl} (h : Xw w b0 px p o n c lo sv cur W) (hb : b0 = w.heap.size) (hl : b0 + 2 ≤ lo) (hpx : px ≠ p) {k : Nat} (hk : k < cur.length) (y : Pl.Bl) (hD : Dat (fun b => lo ≤ b ∧ b ≠ p) N N W shLns [lnsD y.lines] [lv]) (hN : p < N) : Xw w b0 px p o n c lo sv (cur.set k y) (W.setCells p (o + k * 3) [.string y.kind, .string y.name, lv]) := by
  have hm : Marks (fun b => b = p) W (W.setCells p (o + k * 3) [.string y.kind, .string y.name, lv]) := mks_scs (S := fun b => b = p) rfl _ _ _
  have hp := h.row.lo
  exact ⟨hm.below (fun b e => by omega) h.bel, h.arg.mks hm (by omega), h.res.mks hm (by omega), h.x.mks hm hpx, h.row.put hk y hD hN⟩
def VFa (rp : Nat) (ro : Nat) (nr : Nat) (rc : Nat) (k : Nat) : Nat → Value → World → Prop
  | 0, vv, _ => vv = .slice (some ⟨rp, ro, none⟩) nr rc
  | 1, vv, _ => vv = .int .i64 (k : Int)
  | 2, vv, _ => vv = .pointer (some ⟨rp, ro + k * 4, none⟩)
  | 3, vv, _ => vv = .pointer (some ⟨rp, ro + k * 4 + 2, none⟩)
  | 4, vv, _ => vv = .bool true
  | 5, vv, _ => vv = .bool false
  | 6, vv, _ => vv = .bool false
  | 7, vv, _ => vv = undef
  | 8, vv, _ => vv = undef
  | 9, vv, _ => vv = undef
  | 10, vv, _ => vv = undef
  | 11, vv, _ => vv = undef
  | 12, vv, _ => vv = undef
  | 13, vv, _ => vv = undef
  | 14, vv, _ => vv = undef
  | 15, vv, _ => vv = undef
  | 16, vv, _ => vv = undef
  | 17, vv, _ => vv = undef
  | 18, vv, _ => vv = undef
  | 19, vv, _ => vv = undef
  | 20, vv, _ => vv = .bool false
  | _, _, _ => True
theorem VFa_mono (rp : Nat) (ro : Nat) (nr : Nat) (rc : Nat) (k : Nat) : ∀ jj vv W W', Below W.heap.size W W' → VFa rp ro nr rc k jj vv W → VFa rp ro nr rc k jj vv W' := by
  intro jj vv W W' hb h
  match jj with
  | 0 => exact h
  | 1 => exact h
  | 2 => exact h
  | 3 => exact h
  | 4 => exact h
  | 5 => exact h
  | 6 => exact h
  | 7 => exact h
  | 8 => exact h
  | 9 => exact h
  | 10 => exact h
  | 11 => exact h
  | 12 => exact h
  | 13 => exact h
  | 14 => exact h
  | 15 => exact h
  | 16 => exact h
  | 17 => exact h
  | 18 => exact h
  | 19 => exact h
  | 20 => exact h
  | n + 21 => exact trivial
def VFb (px : Nat) (p : Nat) (o : Nat) (n : Nat) (c : Nat) (i : Nat) (rp : Nat) (ro : Nat) (nr : Nat) (rc : Nat) (k : Nat) (y : Pl.Bl) (acc : List Pl.Ln) (r : Pl.Ru) (la : Option Addr) (lc : Nat) : Nat → Value → World → Prop
  | 0, vv, _ => vv = .slice (some ⟨rp, ro, none⟩) nr rc
  | 1, vv, _ => vv = .int .i64 (k : Int)
  | 2, vv, _ => vv = .pointer (some ⟨rp, ro + k * 4, none⟩)
  | 3, vv, _ => vv = .pointer (some ⟨rp, ro + k * 4 + 2, none⟩)
  | 4, vv, _ => vv = .bool false
  | 5, vv, _ => vv = .bool true
  | 6, vv, _ => vv = .bool true
  | 7, vv, _ => vv = .pointer (some ⟨px, 0, none⟩)
  | 8, vv, _ => vv = .slice (some ⟨p, o, none⟩) n c
  | 9, vv, _ => vv = .int .i64 (i : Int)
  | 10, vv, _ => vv = .pointer (some ⟨p, o + i * 3, none⟩)
  | 11, vv, _ => vv = .agg #[.string y.kind, .string y.name, .slice la acc.length lc]
  | 12, vv, _ => vv = .slice (some ⟨rp, ro, none⟩) nr rc
  | 13, vv, _ => vv = .int .i64 (k : Int)
  | 14, vv, _ => vv = .pointer (some ⟨rp, ro + k * 4, none⟩)
  | 15, vv, _ => vv = .pointer (some ⟨rp, ro + k * 4, none⟩)
  | 16, vv, _ => vv = .string r.key
  | 17, vv, _ => ∃ a m, vv = .slice a (Pl.linesOf acc r.key).length m
  | 18, vv, _ => vv = .int .i64 ((Pl.linesOf acc r.key).length : Int)
  | 19, vv, _ => vv = .bool (decide ((Pl.linesOf acc r.key).length = 0))
  | 20, vv, _ => vv = .bool (decide ((Pl.linesOf acc r.key).length = 0))
  | _, _, _ => True
theorem VFb_mono (px : Nat) (p : Nat) (o : Nat) (n : Nat) (c : Nat) (i : Nat) (rp : Nat) (ro : Nat) (nr : Nat) (rc : Nat) (k : Nat) (y : Pl.Bl) (acc : List Pl.Ln) (r : Pl.Ru) (la : Option Addr) (lc : Nat) : ∀ jj vv W W', Below W.heap.size W W' → VFb px p o n c i rp ro nr rc k y acc r la lc jj vv W → VFb px p o n c i rp ro nr rc k y acc r la lc jj vv W' := by
  intro jj vv W W' hb h
  match jj with
  | 0 => exact h
  | 1 => exact h
  | 2 => exact h
  | 3 => exact h
  | 4 => exact h
  | 5 => exact h
  | 6 => exact h
  | 7 => exact h
  | 8 => exact h
  | 9 => exact h
  | 10 => exact h
  | 11 => exact h
  | 12 => exact h
  | 13 => exact h
  | 14 => exact h
  | 15 => exact h
  | 16 => exact h
  | 17 =>
    exact h
  | 18 => exact h
  | 19 => exact h
  | 20 => exact h
  | n + 21 => exact trivial
def VFc (lo : Nat) (N : Nat) (px : Nat) (p : Nat) (o : Nat) (n : Nat) (c : Nat) (i : Nat) (rp : Nat) (ro : Nat) (nr : Nat) (rc : Nat) (k : Nat) (y : Pl.Bl) (acc : List Pl.Ln) (r : Pl.Ru) (la : Option Addr) (a3 : Option Addr) (lc : Nat) (c3 : Nat) : Nat → Value → World → Prop
  | 0, vv, _ => vv = .pointer (some ⟨px, 0, none⟩)
  | 1, vv, _ => vv = .slice (some ⟨p, o, none⟩) n c
  | 2, vv, _ => vv = .int .i64 (i : Int)
  | 3, vv, _ => vv = .pointer (some ⟨px, 0, none⟩)
  | 4, vv, _ => vv = .slice (some ⟨p, o, none⟩) n c
  | 5, vv, _ => vv = .int .i64 (i : Int)
  | 6, vv, _ => vv = .pointer (some ⟨p, o + i * 3, none⟩)
  | 7, vv, _ => vv = .agg #[.string y.kind, .string y.name, .slice la acc.length lc]
  | 8, vv, _ => vv = .slice (some ⟨rp, ro, none⟩) nr rc
  | 9, vv, _ => vv = .int .i64 (k : Int)
  | 10, vv, _ => vv = .pointer (some ⟨rp, ro + k * 4, none⟩)
  | 11, vv, _ => vv = .pointer (some ⟨rp, ro + k * 4, none⟩)
  | 12, vv, _ => vv = .string r.key
  | 13, vv, _ => vv = .slice (some ⟨rp, ro, none⟩) nr rc
  | 14, vv, _ => vv = .int .i64 (k : Int)
  | 15, vv, _ => vv = .pointer (some ⟨rp, ro + k * 4, none⟩)
  | 16, vv, _ => vv = .pointer (some ⟨rp, ro + k * 4 + 3, none⟩)
  | 17, vv, _ => vv = .slice a3 r.dflt.length c3
  | 18, vv, _ => vv = .agg #[.string r.key, .slice a3 r.dflt.length c3]
  | 19, vv, W => ∃ cc, vv = .agg cc.toArray ∧ Dat (fun b => lo ≤ b ∧ b ≠ p) N N W shSheetBlock (blD ⟨y.kind, y.name, Pl.putLn y.kind acc ⟨r.key, r.dflt⟩⟩) cc
  | 20, vv, _ => vv = .pointer (some ⟨p, o + i * 3, none⟩)
  | _, _, _ => True
theorem VFc_mono (lo : Nat) (N : Nat) (px : Nat) (p : Nat) (o : Nat) (n : Nat) (c : Nat) (i : Nat) (rp : Nat) (ro : Nat) (nr : Nat) (rc : Nat) (k : Nat) (y : Pl.Bl) (acc : List Pl.Ln) (r : Pl.Ru) (la : Option Addr) (a3 : Option Addr) (lc : Nat) (c3 : Nat) : ∀ jj vv W W', Below W.heap.size W W' → VFc lo N px p o n c i rp ro nr rc k y acc r la a3 lc c3 jj vv W → VFc lo N px p o n c i rp ro nr rc k y acc r la a3 lc c3 jj vv W' := by
  intro jj vv W W' hb h
  match jj with
  | 0 => exact h
  | 1 => exact h
  | 2 => exact h
  | 3 => exact h
  | 4 => exact h
  | 5 => exact h
  | 6 => exact h
  | 7 => exact h
  | 8 => exact h
  | 9 => exact h
  | 10 => exact h
  | 11 => exact h
  | 12 => exact h
  | 13 => exact h
  | 14 => exact h
  | 15 => exact h
  | 16 => exact h
  | 17 => exact h
  | 18 => exact h
  | 19 =>
    obtain ⟨cc, h1, h2⟩ := h
    exact ⟨cc, h1, h2.later hb⟩
  | 20 => exact h
  | n + 21 => exact trivial

set_option maxRecDepth 8000 in
set_option maxHeartbeats 16000000 in
theorem sheetFillS (s : List Pl.Bl) (v : Value) (w : World) (h : Raw w shBls [blsD s] [v]) (hs : ∀ b ∈ s, Sm 1048576 b) :
    Calls Try.prog 6 #[.agg #[v]] w (Ans shSheet [blsD (Pl.fillOut s)] w) := by
  have HL := uh h
  have HSM := uh hs
  obtain ⟨va, vc, ev⟩ := h.len0
  subst ev
  clear h hs
  obtain ⟨wa, hwa⟩ : ∃ wa, wa = (w.alloc (.cells #[.slice va s.length vc] 28)).alloc (.cells #[.slice none 0 0] 28) := ⟨_, rfl⟩
  obtain ⟨b0, hb0⟩ : ∃ b0, b0 = w.heap.size := ⟨_, rfl⟩
  have HBZ := uh hb0
  have HB : Hid (Below w.heap.size w wa) := by show Below _ _ _; rw [hwa]; exact blw_alloc (blw_alloc (Below.refl _ _) _) _
  have HUB : Hid (LBox wa b0 [.slice va s.length vc]) := by show LBox _ _ _; rw [hwa, hb0]; exact (LBox.new w #[.slice va s.length vc] _ _ rfl).past _
  have HRS : Hid (WBox wa (b0 + 1) 28 [.slice none 0 0]) := by show WBox _ _ _ _; rw [hwa, hb0]; exact WBox.new (w.alloc (.cells #[.slice va s.length vc] 28)) [.slice none 0 0] 28 _ (by simp)
  go_enter Try.func6, Try.ntmps6
  go_upto_region 1 with fail
  rw [← hwa, ← hb0]
  clear hwa hb0
  have HC1 := uh (fun (X : World) (hX : Below w.heap.size w X) => sheetValidS s (.slice va s.length vc) X (HL.out.later hX) (sm_tx HSM.out))
  have xz := HUB.out.lt
  have xa := HUB.out.at_
  go_wp2_with (refine wpList_load_mid rfl 28 _ rfl b0 0 rfl [.slice va s.length vc] _ xa Try.underlying28 rfl (by kernel_rfl) ?_)
  refine (HC1.out wa HB.out).mono ?_
  rintro e w1 ⟨rfl, hb⟩
  replace HB := uh (blw_trans HB.out hb)
  replace HUB := uh (HUB.out.later hb)
  replace HRS := uh (HRS.out.later hb)
  clear hb xz xa HC1
  cases hvs : Pl.validS s
  · have HE : Hid (Pl.fillOut s = []) := by show _ = _; unfold Pl.fillOut; rw [hvs]; rfl
    have HRES := HRS
    have HBW := HB
    have hth : w1.there (b0 + 1) 0 (#[.slice none 0 0] : Array Value).size := uthere HRES.out.own _ _ (by simp)
    obtain ⟨we, hwe⟩ : ∃ we, we = w1.setCells (b0 + 1) 0 [.slice none 0 0] := ⟨_, rfl⟩
    have hrt : we.rangeAt (b0 + 1) 0 [.slice none 0 0] := by rw [hwe]; exact World.rangeAt_setCells_same _ _ _ _ hth
    have HM2 : Hid (Marks (fun b => b = b0 + 1) w1 we) := by show Marks _ _ _; rw [hwe]; exact mks_scs (S := fun b => b = b0 + 1) rfl _ _ _
    go_wp2_with (refine wpList_store_mid rfl 28 _ _ rfl (b0 + 1) 0 #[.slice none 0 0] rfl rfl hth (by kernel_rfl) (by simp [Value.oneCell']) ?_)
    first | rw [← hwe] | (simp only [List.toList_toArray]; rw [← hwe])
    try simp only [Act.put]
    refine bodyPost_ret (v := .agg #[.slice none 0 0]) (by simp [results, Try.results6, asAddr, run_loadVar_mid (P := Try.prog) _ _ _ 28 [.slice none 0 0] _ hrt Try.underlying28 rfl (by kernel_rfl)]) rfl ?_
    have hz := HBZ.out
    rw [HE.out]
    exact ⟨[.slice none 0 0], [], rfl, .emp _ _ _ rfl .nil, List.nodup_nil, by simp, HM2.out.below (fun b e => by omega) HBW.out⟩
  have HE0 : Hid (Pl.fillOut s = s.map Pl.fillBl) := by show _ = _; unfold Pl.fillOut; rw [hvs]; rfl
  have hls := Pl.valid_len hvs
  clear hvs
  have xz := HUB.out.lt
  have xa := HUB.out.at_
  have HC1 := uh (l39CopyS s (.slice va s.length vc) w1 (HL.out.later HB.out) (by omega) (fun b hb => ⟨Nat.le_trans (HSM.out b hb).ln (by omega), fun x hx => ((HSM.out b hb).ws x hx).1⟩))
  go_wp2_with (refine wpList_load_mid rfl 28 _ rfl b0 0 rfl [.slice va s.length vc] _ xa Try.underlying28 rfl (by kernel_rfl) ?_)
  refine HC1.out.mono ?_
  rintro e w2 ⟨cc, FF, rfl, rep, nd, fr, hb⟩
  obtain ⟨F2, v2, hFF, hcc, r2⟩ := repSheet rep
  subst hcc
  obtain ⟨a2, m2, hv2⟩ := r2.raw.len0
  subst hv2
  rw [hFF, List.append_nil] at nd fr
  have HLO : Hid (b0 + 2 ≤ w1.heap.size) := HRS.out.own.lt
  have HFL : Hid (∀ b ∈ F2, b < w2.heap.size) := r2.lt
  replace HB := uh (blw_trans HB.out hb)
  replace HUB := uh (HUB.out.later hb)
  replace HRS := uh (HRS.out.later hb)
  have HRP := uh (And.intro r2 (And.intro nd fr))
  clear rep nd fr r2 hb xz xa HC1 hFF
  obtain ⟨lo, hlo⟩ : ∃ lo, lo = w1.heap.size := ⟨_, rfl⟩
  rw [← hlo] at HLO HRP
  clear hlo
  obtain ⟨px, hpx⟩ : ∃ px, px = w2.heap.size := ⟨_, rfl⟩
  obtain ⟨wx, hwx⟩ : ∃ wx, wx = w2.alloc (.cells #[.slice a2 s.length m2] 28) := ⟨_, rfl⟩
  have hbx : Below w2.heap.size w2 wx := by rw [hwx]; exact blw_alloc (Below.refl _ _) _
  have HXB : Hid (LBox wx px [.slice a2 s.length m2]) := by show LBox _ _ _; rw [hwx, hpx]; exact LBox.new w2 #[.slice a2 s.length m2] _ _ rfl
  replace HB := uh (blw_trans HB.out hbx)
  replace HUB := uh (HUB.out.later hbx)
  replace HRS := uh (HRS.out.later hbx)
  replace HRP := uh (And.intro (HRP.out.1.later hbx) HRP.out.2)
  rw [← hpx] at HFL
  clear hbx
  go_upto_region 4 with fail
  rw [← hwx, ← hpx]
  clear hwx hpx
  by_cases hz : s.length = 0
  · have hse : s = [] := List.eq_nil_of_length_eq_zero hz
    subst hse
    have HE : Hid (Pl.fillOut [] = []) := by show _ = _; rw [HE0.out]; rfl
    have x0 := HXB.out.get 0 _ rfl
    have xl := HXB.out.lt
    have xa := HXB.out.at_
    have HC2 := uh (l39CopyS [] (.slice a2 0 m2) wx (HRP.out.1.raw) (by simp) (by simp))
    have hHLE : ¬ ((0 : Int) < 0) := by omega
    go_wp2
    refine wp_loop_rounds 1 ?_
    rw [rounds_succ]
    go_wp2_with (refine wpList_load_mid rfl 28 _ rfl px 0 rfl [.slice a2 0 m2] _ xa Try.underlying28 rfl (by kernel_rfl) ?_)
    refine HC2.out.mono ?_
    rintro e w3 ⟨cc, FF, rfl, rep, nd, fr, hb⟩
    obtain ⟨F3, v3, hFF, hcc, r3⟩ := repSheet rep
    subst hcc
    obtain ⟨a3, m3, hv3⟩ := r3.raw.len0
    subst hv3
    have HRES := uh (HRS.out.later hb)
    have HBW := uh (blw_trans HB.out hb)
    have HRP3 := uh (And.intro rep (And.intro nd fr))
    have HZV : Hid (b0 + 1 < wx.heap.size) := HRS.out.own.lt
    clear rep nd fr r3 hb hFF xl x0 xa HC2
    have hth : w3.there (b0 + 1) 0 (#[.slice a3 0 m3] : Array Value).size := uthere HRES.out.own _ _ (by simp)
    obtain ⟨we, hwe⟩ : ∃ we, we = w3.setCells (b0 + 1) 0 [.slice a3 0 m3] := ⟨_, rfl⟩
    have hrt : we.rangeAt (b0 + 1) 0 [.slice a3 0 m3] := by rw [hwe]; exact World.rangeAt_setCells_same _ _ _ _ hth
    have HM2 : Hid (Marks (fun b => b = b0 + 1) w3 we) := by show Marks _ _ _; rw [hwe]; exact mks_scs (S := fun b => b = b0 + 1) rfl _ _ _
    go_wp2_with (refine wpList_store_mid rfl 28 _ _ rfl (b0 + 1) 0 #[.slice a3 0 m3] rfl rfl hth (by kernel_rfl) (by simp [Value.oneCell']) ?_)
    first | rw [← hwe] | (simp only [List.toList_toArray]; rw [← hwe])
    try simp only [Act.put]
    refine bodyPost_ret (v := .agg #[.slice a3 0 m3]) (by simp [results, Try.results6, asAddr, run_loadVar_mid (P := Try.prog) _ _ _ 28 [.slice a3 0 m3] _ hrt Try.underlying28 rfl (by kernel_rfl)]) rfl ?_
    have hz := HBZ.out
    rw [HE.out]
    exact ⟨_, FF, rfl, HRP3.out.1.keep HM2.out (fun b hb e => by have := HRP3.out.2.2 b hb; have := HZV.out; omega), HRP3.out.2.1, fun b hb => by have := HRP3.out.2.2 b hb; have := HZV.out; omega, HM2.out.below (fun b e => by omega) HBW.out⟩
  obtain ⟨p, o, c, hv, hcn, hrow⟩ := rowX_of HRP.out.1 HRP.out.2.1 HRP.out.2.2 (by omega)
  injection hv with g1 g2 g3
  subst g1; subst g3
  obtain ⟨n, hn⟩ : ∃ n, n = s.length := ⟨_, rfl⟩
  have HN := uh hn
  have HPP : Hid (px ≠ p) := by
    intro e
    rcases HRP.out.1.slice with ⟨_, h0, _⟩ | ⟨p', o', c', u', m', G', hv', hF', _⟩
    · omega
    · injection hv' with q1
      injection q1 with q1
      injection q1 with q1
      have := HFL.out p' (by rw [hF']; simp)
      omega
  have H0 : Hid (Xw w b0 px p o n m2 lo (.slice va s.length vc) s wx) := ⟨HB.out, HUB.out, HRS.out, by rw [hn]; exact HXB.out, hrow⟩
  have hnl : n ≤ 60 := by omega
  have HCN : Hid (n ≤ m2) := by show _ ≤ _; rw [hn]; exact hcn
  clear HB HUB HRS HXB HRP HFL hrow hcn hz hls
  rw [← hn]
  rw [← hn] at H0
  clear hn
  go_wp2
  go_loopw [4] (fun vi wr => ∃ (i : Nat), i ≤ n ∧ vi = .int .i64 i ∧ Xw w b0 px p o n m2 lo (.slice va n vc) (Pl.curG Pl.fillBl s i) wr) (fun vi _ => n - (intOf vi).toNat)
  case atStart => exact ⟨0, Nat.zero_le _, rfl, by rw [Pl.curG_zero]; exact H0.out⟩
  case round =>
    obtain ⟨i, hi, rfl, hO⟩ := hrel
    have HO := uh hO
    clear hO H0
    have x0 := HO.out.x.get 0 _ rfl
    have xl := HO.out.x.lt
    by_cases hlt : i < n
    rotate_left
    · obtain rfl : i = n := by omega
      have hnlt : ¬ ((i : Int) < (i : Int)) := by omega
      have HCU : Hid (Pl.curG Pl.fillBl s i = s.map Pl.fillBl) := by show _ = _; rw [HN.out, Pl.curG_end]
      rw [HCU.out] at HO
      have HML : Hid ((s.map Pl.fillBl).length = i) := by show _ = _; rw [List.length_map]; exact HN.out.symm
      have HE : Hid (Pl.fillOut s = s.map Pl.fillBl) := HE0
      have HSN : Hid (∀ b ∈ s.map Pl.fillBl, b.lines.length ≤ 4194304 ∧ ∀ x ∈ b.lines, x.ws.length ≤ 4194304) := fun b hb => by
        obtain ⟨y, hy, rfl⟩ := List.mem_map.1 hb
        have h1 := fill_ws (HSM.out y hy) (Pl.rulesOf y.kind).length
        rw [List.take_length] at h1
        exact ⟨Nat.le_trans h1.1 (by omega), h1.2⟩
      obtain ⟨z, hz⟩ : ∃ z, z = s.map Pl.fillBl := ⟨_, rfl⟩
      rw [← hz] at HO HML HE HSN
      clear hz
      go_upto_region 13 with fail
      clear x0 xl hnlt
      have xa := HO.out.x.at_
      have xl := HO.out.x.lt
      have HC2 := uh (l39CopyS z (.slice (some ⟨p, o, none⟩) z.length m2) wr (HO.out.row.raw ⟨by rw [HML.out]; unfold maxLen; omega, by rw [HML.out]; exact HCN.out⟩) (by rw [HML.out]; omega) HSN.out)
      rw [HML.out] at HC2
      go_wp2_with (refine wpList_load_mid rfl 28 _ rfl px 0 rfl [.slice (some ⟨p, o, none⟩) i m2] _ xa Try.underlying28 rfl (by kernel_rfl) ?_)
      refine HC2.out.mono ?_
      rintro e w3 ⟨cc, FF, rfl, rep, nd, fr, hb⟩
      obtain ⟨F3, v3, hFF, hcc, r3⟩ := repSheet rep
      subst hcc
      obtain ⟨a3, m3, hv3⟩ := r3.raw.len0
      subst hv3
      have HRES := uh (HO.out.res.later hb)
      have HBW := uh (blw_trans HO.out.bel hb)
      have HRP3 := uh (And.intro rep (And.intro nd fr))
      have HZV : Hid (b0 + 1 < wr.heap.size) := HO.out.res.own.lt
      clear rep nd fr r3 hb hFF xl xa HC2
      have hth : w3.there (b0 + 1) 0 (#[.slice a3 z.length m3] : Array Value).size := uthere HRES.out.own _ _ (by simp)
      obtain ⟨we, hwe⟩ : ∃ we, we = w3.setCells (b0 + 1) 0 [.slice a3 z.length m3] := ⟨_, rfl⟩
      have hrt : we.rangeAt (b0 + 1) 0 [.slice a3 z.length m3] := by rw [hwe]; exact World.rangeAt_setCells_same _ _ _ _ hth
      have HM2 : Hid (Marks (fun b => b = b0 + 1) w3 we) := by show Marks _ _ _; rw [hwe]; exact mks_scs (S := fun b => b = b0 + 1) rfl _ _ _
      go_wp2_with (refine wpList_store_mid rfl 28 _ _ rfl (b0 + 1) 0 #[.slice a3 z.length m3] rfl rfl hth (by kernel_rfl) (by simp [Value.oneCell']) ?_)
      first | rw [← hwe] | (simp only [List.toList_toArray]; rw [← hwe])
      try simp only [Act.put]
      refine bodyPost_ret (v := .agg #[.slice a3 z.length m3]) (by simp [results, Try.results6, asAddr, run_loadVar_mid (P := Try.prog) _ _ _ 28 [.slice a3 z.length m3] _ hrt Try.underlying28 rfl (by kernel_rfl)]) rfl ?_
      have hz := HBZ.out
      rw [HE.out]
      exact ⟨_, FF, rfl, HRP3.out.1.keep HM2.out (fun b hb e => by have := HRP3.out.2.2 b hb; have := HZV.out; omega), HRP3.out.2.1, fun b hb => by have := HRP3.out.2.2 b hb; have := HZV.out; omega, HM2.out.below (fun b e => by omega) HBW.out⟩
    have his : i < s.length := by have := HN.out; omega
    have HCL : Hid ((Pl.curG Pl.fillBl s i).length = n) := by show _ = _; rw [HN.out]; exact Pl.curG_len Pl.fillBl s i (by omega)
    obtain ⟨y, hy⟩ : ∃ y, y = s.getD i Pl.blNo := ⟨_, rfl⟩
    have HSY : Hid (Sm 1048576 y) := by show Sm _ _; rw [hy]; exact sm_at HSM.out his
    have HSE := uh (Pl.curG_step Pl.fillBl s i his)
    have HS0 := uh (Pl.curG_set0 Pl.fillBl s i his)
    rw [← hy] at HSE HS0
    obtain ⟨ga, gm, hgx, _⟩ := HO.out.row.at_ (k := i) (by rw [HCL.out]; exact hlt) (Nat.le_refl _)
    rw [Pl.curG_get Pl.fillBl s i his, ← hy] at hgx
    have hgk := hgx 0 _ rfl
    rw [Nat.add_zero] at hgk
    have hpl := HO.out.row.lt
    obtain ⟨cur, hcur⟩ : ∃ cur, cur = Pl.curG Pl.fillBl s i := ⟨_, rfl⟩
    rw [← hcur] at HO HCL HSE HS0
    clear hcur hy hgx
    have hi0 : (0 : Int) ≤ (i : Int) := by omega
    have hin : (i : Int) < (n : Int) := by omega
    have HCR := uh (sheetRulesS y.kind wr)
    go_wp2_with fail
    refine HCR.out.mono ?_
    rintro e w4 ⟨rv, RF, rfl, rep, nd, fr, hb⟩
    obtain ⟨ra, rc, hrv⟩ := rep.raw.len0
    subst hrv
    have HDR : Hid (Free lo p w4 [.row 44 shSheetRule] [rulesD (Pl.rulesOf y.kind)] [.slice ra (Pl.rulesOf y.kind).length rc]) := ⟨RF, rep, fun b hb => ⟨by have := fr b hb; have := HO.out.row.lo; have := HO.out.row.lt; omega, by have := fr b hb; have := HO.out.row.lt; omega⟩⟩
    replace HO := uh (HO.out.later hb)
    clear rep nd fr hb hgk hpl x0 xl HCR
    obtain ⟨rs, hrs⟩ : ∃ rs, rs = Pl.rulesOf y.kind := ⟨_, rfl⟩
    have HRS := uh hrs
    rw [← hrs] at HDR ⊢
    obtain ⟨nr, hnr⟩ : ∃ nr, nr = rs.length := ⟨_, rfl⟩
    have HNR := uh hnr
    have hnr12 : nr ≤ 12 := by rw [hnr, hrs]; exact rules_len _
    rw [← hnr] at HDR ⊢
    clear hrs hnr
    have HFR : Hid (Free lo p w4 [.row 44 shSheetRule] [rulesD rs] [.slice ra nr rc]) := HDR.out
    clear HDR
    go_wp2
    go_loopw [6] (fun vi wr => ∃ (k : Nat), k ≤ nr ∧ vi = .int .i64 k ∧ Free lo p wr [.row 44 shSheetRule] [rulesD rs] [.slice ra nr rc] ∧ Xw w b0 px p o n m2 lo (.slice va n vc) (cur.set i ⟨y.kind, y.name, Pl.fillLs y.kind y.lines (rs.take k)⟩) wr) (fun vi _ => nr - (intOf vi).toNat)
    case atStart => exact ⟨0, Nat.zero_le _, rfl, HFR.out, by show Xw _ _ _ _ _ _ _ _ _ (cur.set i ⟨y.kind, y.name, y.lines⟩) _; rw [HS0.out]; exact HO.out⟩
    case round =>
      clear HO HFR
      obtain ⟨k, hk, rfl, hR, hO⟩ := hrel
      have HO := uh hO
      have HFR := uh hR
      clear hO hR
      by_cases hkt : k < nr
      rotate_left
      · obtain rfl : k = nr := by omega
        have hnlt : ¬ ((k : Int) < (k : Int)) := by omega
        have HCE : Hid (cur.set i ⟨y.kind, y.name, Pl.fillLs y.kind y.lines (rs.take k)⟩ = Pl.curG Pl.fillBl s (i + 1)) := by
          show _ = _
          rw [← HSE.out, HNR.out, List.take_length, HRS.out]; rfl
        rw [HCE.out] at HO
        go_wp2
        go_roundw
        case rel => exact ⟨i + 1, by omega, by go_num, HO.out⟩
        case measure => simp [intOf]; omega
      have hkr : k < rs.length := by have := HNR.out; omega
      obtain ⟨acc, hacc⟩ : ∃ acc, acc = Pl.fillLs y.kind y.lines (rs.take k) := ⟨_, rfl⟩
      obtain ⟨r, hr⟩ : ∃ r, r = rs.getD k Pl.ruNo := ⟨_, rfl⟩
      have HST : Hid (Pl.fillLs y.kind y.lines (rs.take (k + 1)) = Pl.fillStep y.kind acc r) := by show _ = _; rw [Pl.fillLs_step _ _ _ _ hkr, hacc, hr]
      have HAS : Hid (acc.length ≤ 1048588 ∧ ∀ x ∈ acc, x.ws.length ≤ 4194304) := by
        show _ ∧ _
        rw [hacc, HRS.out]; exact fill_ws HSY.out k
      rw [← hacc] at HO
      obtain ⟨N, hN⟩ : ∃ N, N = wr.heap.size := ⟨_, rfl⟩
      obtain ⟨la, lc, hgx, hdx⟩ := HO.out.row.at_ (k := i) (by rw [List.length_set, HCL.out]; exact hlt) (N := N) (by omega)
      rw [Pl.set_mid _ _ _ _ (by rw [HCL.out]; exact hlt)] at hgx hdx
      obtain ⟨rp, ro, c', a1, c1, a3, c3, hv, hpr, hgr, hdr⟩ := dat_rule (HFR.out.dat (N := N) (by omega)) hkr
      rw [← HNR.out] at hv
      injection hv with g1 g2 g3
      subst g1; subst g3
      rw [← hr] at hgr hdr
      have HGX := uh hgx
      have HDX := uh hdx
      have HGR := uh hgr
      have HDRr := uh hdr
      have HPZ : Hid (p < wr.heap.size) := HO.out.row.lt
      have HPR := uh hpr
      have HPN : Hid (p < N ∧ N ≤ wr.heap.size) := by rw [hN]; exact ⟨HO.out.row.lt, Nat.le_refl _⟩
      clear hacc hr hN hgx hdx hgr hdr hpr
      have hk0 : (0 : Int) ≤ (k : Int) := by omega
      have hkn : (k : Int) < (nr : Int) := by omega
      cases hmn : r.many
      rotate_left
      · have HSQ : Hid (Pl.fillLs y.kind y.lines (rs.take (k + 1)) = acc) := by show _ = _; rw [HST.out]; unfold Pl.fillStep; rw [hmn]; rfl
        rw [hmn] at HGR
        go_upto_region 11 with fail
        refine RY.region_pastG wr (Below.refl _ _) (VFa rp ro nr rc k) (VFa_mono _ _ _ _ _) (by kernel_rfl) (by kernel_rfl) (by kernel_rfl) (by kernel_rfl) ?_ ?_
        · intro ii o' ho a X hX hk hd
          have zpx := HO.out.x.later hX
          have zpxl := zpx.lt
          match ii, ho with
          | 0, ho =>
            injection ho with ho; subst ho
            have e5 : a.tmps[5]?.getD undef = .slice (some ⟨rp, ro, none⟩) nr rc := (RY.ev_tmp a 5).trans ((hk 5 (by kernel_rfl)).trans rfl)
            exact Or.inl ⟨RY.wanted_no rfl, Or.inl ⟨.slice (some ⟨rp, ro, none⟩) nr rc, X, by simp [execOp, go_sem, e5], Below.refl _ _, rfl⟩⟩
          | 1, ho =>
            injection ho with ho; subst ho
            have e6 : a.tmps[6]?.getD undef = .int .i64 (k : Int) := (RY.ev_tmp a 6).trans ((hk 6 (by kernel_rfl)).trans rfl)
            exact Or.inl ⟨RY.wanted_no rfl, Or.inl ⟨.int .i64 (k : Int), X, by simp [execOp, go_sem, e6], Below.refl _ _, rfl⟩⟩
          | 2, ho =>
            injection ho with ho; subst ho
            have e33 : a.tmps[33]?.getD undef = .slice (some ⟨rp, ro, none⟩) nr rc := (RY.ev_tmp a 33).trans (hd 0 _ 33 rfl rfl ⟨⟨0, .data⟩, by simp, rfl, rfl⟩)
            have e34 : a.tmps[34]?.getD undef = .int .i64 (k : Int) := (RY.ev_tmp a 34).trans (hd 1 _ 34 rfl rfl ⟨⟨1, .data⟩, by simp, rfl, rfl⟩)
            exact Or.inl ⟨RY.wanted_no rfl, Or.inl ⟨.pointer (some ⟨rp, ro + k * 4, none⟩), X, by simp [execOp, go_sem, e33, e34, hk0, hkn], Below.refl _ _, rfl⟩⟩
          | 3, ho =>
            injection ho with ho; subst ho
            have e35 : a.tmps[35]?.getD undef = .pointer (some ⟨rp, ro + k * 4, none⟩) := (RY.ev_tmp a 35).trans (hd 2 _ 35 rfl rfl ⟨⟨2, .data⟩, by simp, rfl, rfl⟩)
            exact Or.inl ⟨RY.wanted_no rfl, Or.inl ⟨.pointer (some ⟨rp, ro + k * 4 + 2, none⟩), X, by simp [execOp, go_sem, e35], Below.refl _ _, rfl⟩⟩
          | 4, ho =>
            injection ho with ho; subst ho
            have e36 : a.tmps[36]?.getD undef = .pointer (some ⟨rp, ro + k * 4 + 2, none⟩) := (RY.ev_tmp a 36).trans (hd 3 _ 36 rfl rfl ⟨⟨3, .data⟩, by simp, rfl, rfl⟩)
            have yp := Nat.lt_of_lt_of_le HPR.out hX.size
            have yc : X.cell? ⟨rp, ro + k * 4 + 2, none⟩ = some (.bool true) := by have q := rA_get (rA_later HGR.out HPR.out hX) 2 _ rfl; simpa using q
            exact Or.inl ⟨RY.wanted_no rfl, Or.inl ⟨.bool true, X, by simp [execOp, go_sem, e36, yc], Below.refl _ _, rfl⟩⟩
          | 5, ho =>
            injection ho with ho; subst ho
            have e37 : a.tmps[37]?.getD undef = .bool true := (RY.ev_tmp a 37).trans (hd 4 _ 37 rfl rfl ⟨⟨4, .data⟩, by simp, rfl, rfl⟩)
            exact Or.inl ⟨RY.wanted_no rfl, Or.inl ⟨.bool false, X, by simp [execOp, go_sem, e37], Below.refl _ _, rfl⟩⟩
          | 6, ho =>
            injection ho with ho; subst ho
            have e38 : a.tmps[38]?.getD undef = .bool false := (RY.ev_tmp a 38).trans (hd 5 _ 38 rfl rfl ⟨⟨5, .data⟩, by simp, rfl, rfl⟩)
            exact Or.inl ⟨RY.wanted_no rfl, Or.inl ⟨.bool false, X, by simp [execOp, go_sem, e38], Below.refl _ _, rfl⟩⟩
          | 7, ho =>
            injection ho with ho; subst ho
            have gd := hd 6 _ 39 rfl rfl ⟨⟨6, .guard⟩, by simp, rfl, rfl⟩
            exact Or.inr ⟨(RY.wanted_at rfl rfl rfl gd).trans rfl, rfl⟩
          | 8, ho =>
            injection ho with ho; subst ho
            have gd := hd 6 _ 39 rfl rfl ⟨⟨6, .guard⟩, by simp, rfl, rfl⟩
            exact Or.inr ⟨(RY.wanted_at rfl rfl rfl gd).trans rfl, rfl⟩
          | 9, ho =>
            injection ho with ho; subst ho
            have gd := hd 6 _ 39 rfl rfl ⟨⟨6, .guard⟩, by simp, rfl, rfl⟩
            exact Or.inr ⟨(RY.wanted_at rfl rfl rfl gd).trans rfl, rfl⟩
          | 10, ho =>
            injection ho with ho; subst ho
            have gd := hd 6 _ 39 rfl rfl ⟨⟨6, .guard⟩, by simp, rfl, rfl⟩
            exact Or.inr ⟨(RY.wanted_at rfl rfl rfl gd).trans rfl, rfl⟩
          | 11, ho =>
            injection ho with ho; subst ho
            have gd := hd 6 _ 39 rfl rfl ⟨⟨6, .guard⟩, by simp, rfl, rfl⟩
            exact Or.inr ⟨(RY.wanted_at rfl rfl rfl gd).trans rfl, rfl⟩
          | 12, ho =>
            injection ho with ho; subst ho
            have gd := hd 6 _ 39 rfl rfl ⟨⟨6, .guard⟩, by simp, rfl, rfl⟩
            exact Or.inr ⟨(RY.wanted_at rfl rfl rfl gd).trans rfl, rfl⟩
          | 13, ho =>
            injection ho with ho; subst ho
            have gd := hd 6 _ 39 rfl rfl ⟨⟨6, .guard⟩, by simp, rfl, rfl⟩
            exact Or.inr ⟨(RY.wanted_at rfl rfl rfl gd).trans rfl, rfl⟩
          | 14, ho =>
            injection ho with ho; subst ho
            have gd := hd 6 _ 39 rfl rfl ⟨⟨6, .guard⟩, by simp, rfl, rfl⟩
            exact Or.inr ⟨(RY.wanted_at rfl rfl rfl gd).trans rfl, rfl⟩
          | 15, ho =>
            injection ho with ho; subst ho
            have gd := hd 6 _ 39 rfl rfl ⟨⟨6, .guard⟩, by simp, rfl, rfl⟩
            exact Or.inr ⟨(RY.wanted_at rfl rfl rfl gd).trans rfl, rfl⟩
          | 16, ho =>
            injection ho with ho; subst ho
            have gd := hd 6 _ 39 rfl rfl ⟨⟨6, .guard⟩, by simp, rfl, rfl⟩
            exact Or.inr ⟨(RY.wanted_at rfl rfl rfl gd).trans rfl, rfl⟩
          | 17, ho =>
            injection ho with ho; subst ho
            have gd := hd 6 _ 39 rfl rfl ⟨⟨6, .guard⟩, by simp, rfl, rfl⟩
            exact Or.inr ⟨(RY.wanted_at rfl rfl rfl gd).trans rfl, rfl⟩
          | 18, ho =>
            injection ho with ho; subst ho
            have gd := hd 6 _ 39 rfl rfl ⟨⟨6, .guard⟩, by simp, rfl, rfl⟩
            exact Or.inr ⟨(RY.wanted_at rfl rfl rfl gd).trans rfl, rfl⟩
          | 19, ho =>
            injection ho with ho; subst ho
            have gd := hd 6 _ 39 rfl rfl ⟨⟨6, .guard⟩, by simp, rfl, rfl⟩
            exact Or.inr ⟨(RY.wanted_at rfl rfl rfl gd).trans rfl, rfl⟩
          | 20, ho =>
            injection ho with ho; subst ho
            have e39 : a.tmps[39]?.getD undef = .bool false := (RY.ev_tmp a 39).trans (hd 6 _ 39 rfl rfl ⟨⟨6, .data⟩, by simp, rfl, rfl⟩)
            have e52 : a.tmps[52]?.getD undef = undef := (RY.ev_tmp a 52).trans (hd 19 _ 52 rfl rfl ⟨⟨19, .data⟩, by simp, rfl, rfl⟩)
            exact Or.inl ⟨RY.wanted_no rfl, Or.inl ⟨.bool false, X, by simp [execOp, go_sem, e39, e52], Below.refl _ _, rfl⟩⟩
          | n + 21, ho => simp at ho
        intro X vs hX hvs
        have q53 : vs 53 = _ := hvs 20 _ 53 rfl rfl
        simp only [RY.putAll, Act.put, List.setIfInBounds_toArray, List.set_cons_zero, List.set_cons_succ]
        rw [q53]
        generalize vs 33 = s33
        generalize vs 34 = s34
        generalize vs 35 = s35
        generalize vs 36 = s36
        generalize vs 37 = s37
        generalize vs 38 = s38
        generalize vs 39 = s39
        generalize vs 40 = s40
        generalize vs 41 = s41
        generalize vs 42 = s42
        generalize vs 43 = s43
        generalize vs 44 = s44
        generalize vs 45 = s45
        generalize vs 46 = s46
        generalize vs 47 = s47
        generalize vs 48 = s48
        generalize vs 49 = s49
        generalize vs 50 = s50
        generalize vs 51 = s51
        generalize vs 52 = s52
        clear hvs q53
        replace HO := uh (HO.out.later hX)
        replace HFR := uh (HFR.out.later hX)
        clear hX
        rw [← HSQ.out] at HO
        go_wp2
        go_roundw
        case rel => exact ⟨k + 1, by omega, by go_num, HFR.out, HO.out⟩
        case measure => simp [intOf]; omega
      rw [hmn] at HGR
      have hfe : ((((Pl.linesOf acc r.key).length : Nat) : Int) == 0) = decide ((Pl.linesOf acc r.key).length = 0) := by rw [Bool.eq_iff_iff]; simp
      have HCO := uh (fun (X : World) (hX : Below wr.heap.size wr X) => l41OfS ⟨y.kind, y.name, acc⟩ (.slice la acc.length lc) r.key X (HDX.out.raw.later hX) (by have := HAS.out.1; show acc.length ≤ _; omega) HAS.out.2)
      go_upto_region 11 with fail
      refine RY.region_pastG wr (Below.refl _ _) (VFb px p o n m2 i rp ro nr rc k y acc r la lc) (VFb_mono _ _ _ _ _ _ _ _ _ _ _ _ _ _ _ _) (by kernel_rfl) (by kernel_rfl) (by kernel_rfl) (by kernel_rfl) ?_ ?_
      · intro ii o' ho a X hX hk hd
        have zpx := HO.out.x.later hX
        have zpxl := zpx.lt
        match ii, ho with
        | 0, ho =>
          injection ho with ho; subst ho
          have e5 : a.tmps[5]?.getD undef = .slice (some ⟨rp, ro, none⟩) nr rc := (RY.ev_tmp a 5).trans ((hk 5 (by kernel_rfl)).trans rfl)
          exact Or.inl ⟨RY.wanted_no rfl, Or.inl ⟨.slice (some ⟨rp, ro, none⟩) nr rc, X, by simp [execOp, go_sem, e5], Below.refl _ _, rfl⟩⟩
        | 1, ho =>
          injection ho with ho; subst ho
          have e6 : a.tmps[6]?.getD undef = .int .i64 (k : Int) := (RY.ev_tmp a 6).trans ((hk 6 (by kernel_rfl)).trans rfl)
          exact Or.inl ⟨RY.wanted_no rfl, Or.inl ⟨.int .i64 (k : Int), X, by simp [execOp, go_sem, e6], Below.refl _ _, rfl⟩⟩
        | 2, ho =>
          injection ho with ho; subst ho
          have e33 : a.tmps[33]?.getD undef = .slice (some ⟨rp, ro, none⟩) nr rc := (RY.ev_tmp a 33).trans (hd 0 _ 33 rfl rfl ⟨⟨0, .data⟩, by simp, rfl, rfl⟩)
          have e34 : a.tmps[34]?.getD undef = .int .i64 (k : Int) := (RY.ev_tmp a 34).trans (hd 1 _ 34 rfl rfl ⟨⟨1, .data⟩, by simp, rfl, rfl⟩)
          exact Or.inl ⟨RY.wanted_no rfl, Or.inl ⟨.pointer (some ⟨rp, ro + k * 4, none⟩), X, by simp [execOp, go_sem, e33, e34, hk0, hkn], Below.refl _ _, rfl⟩⟩
        | 3, ho =>
          injection ho with ho; subst ho
          have e35 : a.tmps[35]?.getD undef = .pointer (some ⟨rp, ro + k * 4, none⟩) := (RY.ev_tmp a 35).trans (hd 2 _ 35 rfl rfl ⟨⟨2, .data⟩, by simp, rfl, rfl⟩)
          exact Or.inl ⟨RY.wanted_no rfl, Or.inl ⟨.pointer (some ⟨rp, ro + k * 4 + 2, none⟩), X, by simp [execOp, go_sem, e35], Below.refl _ _, rfl⟩⟩
        | 4, ho =>
          injection ho with ho; subst ho
          have e36 : a.tmps[36]?.getD undef = .pointer (some ⟨rp, ro + k * 4 + 2, none⟩) := (RY.ev_tmp a 36).trans (hd 3 _ 36 rfl rfl ⟨⟨3, .data⟩, by simp, rfl, rfl⟩)
          have yp := Nat.lt_of_lt_of_le HPR.out hX.size
          have yc : X.cell? ⟨rp, ro + k * 4 + 2, none⟩ = some (.bool false) := by have q := rA_get (rA_later HGR.out HPR.out hX) 2 _ rfl; simpa using q
          exact Or.inl ⟨RY.wanted_no rfl, Or.inl ⟨.bool false, X, by simp [execOp, go_sem, e36, yc], Below.refl _ _, rfl⟩⟩
        | 5, ho =>
          injection ho with ho; subst ho
          have e37 : a.tmps[37]?.getD undef = .bool false := (RY.ev_tmp a 37).trans (hd 4 _ 37 rfl rfl ⟨⟨4, .data⟩, by simp, rfl, rfl⟩)
          exact Or.inl ⟨RY.wanted_no rfl, Or.inl ⟨.bool true, X, by simp [execOp, go_sem, e37], Below.refl _ _, rfl⟩⟩
        | 6, ho =>
          injection ho with ho; subst ho
          have e38 : a.tmps[38]?.getD undef = .bool true := (RY.ev_tmp a 38).trans (hd 5 _ 38 rfl rfl ⟨⟨5, .data⟩, by simp, rfl, rfl⟩)
          exact Or.inl ⟨RY.wanted_no rfl, Or.inl ⟨.bool true, X, by simp [execOp, go_sem, e38], Below.refl _ _, rfl⟩⟩
        | 7, ho =>
          injection ho with ho; subst ho
          have gd := hd 6 _ 39 rfl rfl ⟨⟨6, .guard⟩, by simp, rfl, rfl⟩
          have e3 : a.tmps[3]?.getD undef = .pointer (some ⟨px, 0, none⟩) := (RY.ev_tmp a 3).trans ((hk 3 (by kernel_rfl)).trans rfl)
          exact Or.inl ⟨(RY.wanted_at rfl rfl rfl gd).trans rfl, Or.inl ⟨.pointer (some ⟨px, 0, none⟩), X, by simp [execOp, go_sem, e3], Below.refl _ _, rfl⟩⟩
        | 8, ho =>
          injection ho with ho; subst ho
          have gd := hd 6 _ 39 rfl rfl ⟨⟨6, .guard⟩, by simp, rfl, rfl⟩
          have e40 : a.tmps[40]?.getD undef = .pointer (some ⟨px, 0, none⟩) := (RY.ev_tmp a 40).trans (hd 7 _ 40 rfl rfl ⟨⟨7, .data⟩, by simp, rfl, rfl⟩)
          have yc := zpx.get 0 _ rfl
          exact Or.inl ⟨(RY.wanted_at rfl rfl rfl gd).trans rfl, Or.inl ⟨.slice (some ⟨p, o, none⟩) n m2, X, by simp [execOp, go_sem, e40, yc], Below.refl _ _, rfl⟩⟩
        | 9, ho =>
          injection ho with ho; subst ho
          have gd := hd 6 _ 39 rfl rfl ⟨⟨6, .guard⟩, by simp, rfl, rfl⟩
          have e4 : a.tmps[4]?.getD undef = .int .i64 (i : Int) := (RY.ev_tmp a 4).trans ((hk 4 (by kernel_rfl)).trans rfl)
          exact Or.inl ⟨(RY.wanted_at rfl rfl rfl gd).trans rfl, Or.inl ⟨.int .i64 (i : Int), X, by simp [execOp, go_sem, e4], Below.refl _ _, rfl⟩⟩
        | 10, ho =>
          injection ho with ho; subst ho
          have gd := hd 6 _ 39 rfl rfl ⟨⟨6, .guard⟩, by simp, rfl, rfl⟩
          have e41 : a.tmps[41]?.getD undef = .slice (some ⟨p, o, none⟩) n m2 := (RY.ev_tmp a 41).trans (hd 8 _ 41 rfl rfl ⟨⟨8, .data⟩, by simp, rfl, rfl⟩)
          have e42 : a.tmps[42]?.getD undef = .int .i64 (i : Int) := (RY.ev_tmp a 42).trans (hd 9 _ 42 rfl rfl ⟨⟨9, .data⟩, by simp, rfl, rfl⟩)
          exact Or.inl ⟨(RY.wanted_at rfl rfl rfl gd).trans rfl, Or.inl ⟨.pointer (some ⟨p, o + i * 3, none⟩), X, by simp [execOp, go_sem, e41, e42, hi0, hin], Below.refl _ _, rfl⟩⟩
        | 11, ho =>
          injection ho with ho; subst ho
          have gd := hd 6 _ 39 rfl rfl ⟨⟨6, .guard⟩, by simp, rfl, rfl⟩
          have v43 : a.eval (.tmp 43) = .pointer (some ⟨p, o + i * 3, none⟩) := hd 10 _ 43 rfl rfl ⟨⟨10, .data⟩, by simp, rfl, rfl⟩
          exact Or.inl ⟨(RY.wanted_at rfl rfl rfl gd).trans rfl, Or.inl ⟨_, X, exec_load_mid 40 _ rfl p (o + i * 3) v43 [.string y.kind, .string y.name, .slice la acc.length lc] _ (rA_later HGX.out HPZ.out hX) Try.underlying40 rfl (by kernel_rfl), Below.refl _ _, rfl⟩⟩
        | 12, ho =>
          injection ho with ho; subst ho
          have gd := hd 6 _ 39 rfl rfl ⟨⟨6, .guard⟩, by simp, rfl, rfl⟩
          have e5 : a.tmps[5]?.getD undef = .slice (some ⟨rp, ro, none⟩) nr rc := (RY.ev_tmp a 5).trans ((hk 5 (by kernel_rfl)).trans rfl)
          exact Or.inl ⟨(RY.wanted_at rfl rfl rfl gd).trans rfl, Or.inl ⟨.slice (some ⟨rp, ro, none⟩) nr rc, X, by simp [execOp, go_sem, e5], Below.refl _ _, rfl⟩⟩
        | 13, ho =>
          injection ho with ho; subst ho
          have gd := hd 6 _ 39 rfl rfl ⟨⟨6, .guard⟩, by simp, rfl, rfl⟩
          have e6 : a.tmps[6]?.getD undef = .int .i64 (k : Int) := (RY.ev_tmp a 6).trans ((hk 6 (by kernel_rfl)).trans rfl)
          exact Or.inl ⟨(RY.wanted_at rfl rfl rfl gd).trans rfl, Or.inl ⟨.int .i64 (k : Int), X, by simp [execOp, go_sem, e6], Below.refl _ _, rfl⟩⟩
        | 14, ho =>
          injection ho with ho; subst ho
          have gd := hd 6 _ 39 rfl rfl ⟨⟨6, .guard⟩, by simp, rfl, rfl⟩
          have e45 : a.tmps[45]?.getD undef = .slice (some ⟨rp, ro, none⟩) nr rc := (RY.ev_tmp a 45).trans (hd 12 _ 45 rfl rfl ⟨⟨12, .data⟩, by simp, rfl, rfl⟩)
          have e46 : a.tmps[46]?.getD undef = .int .i64 (k : Int) := (RY.ev_tmp a 46).trans (hd 13 _ 46 rfl rfl ⟨⟨13, .data⟩, by simp, rfl, rfl⟩)
          exact Or.inl ⟨(RY.wanted_at rfl rfl rfl gd).trans rfl, Or.inl ⟨.pointer (some ⟨rp, ro + k * 4, none⟩), X, by simp [execOp, go_sem, e45, e46, hk0, hkn], Below.refl _ _, rfl⟩⟩
        | 15, ho =>
          injection ho with ho; subst ho
          have gd := hd 6 _ 39 rfl rfl ⟨⟨6, .guard⟩, by simp, rfl, rfl⟩
          have e47 : a.tmps[47]?.getD undef = .pointer (some ⟨rp, ro + k * 4, none⟩) := (RY.ev_tmp a 47).trans (hd 14 _ 47 rfl rfl ⟨⟨14, .data⟩, by simp, rfl, rfl⟩)
          exact Or.inl ⟨(RY.wanted_at rfl rfl rfl gd).trans rfl, Or.inl ⟨.pointer (some ⟨rp, ro + k * 4, none⟩), X, by simp [execOp, go_sem, e47], Below.refl _ _, rfl⟩⟩
        | 16, ho =>
          injection ho with ho; subst ho
          have gd := hd 6 _ 39 rfl rfl ⟨⟨6, .guard⟩, by simp, rfl, rfl⟩
          have e48 : a.tmps[48]?.getD undef = .pointer (some ⟨rp, ro + k * 4, none⟩) := (RY.ev_tmp a 48).trans (hd 15 _ 48 rfl rfl ⟨⟨15, .data⟩, by simp, rfl, rfl⟩)
          have yp := Nat.lt_of_lt_of_le HPR.out hX.size
          have yc : X.cell? ⟨rp, ro + k * 4, none⟩ = some (.string r.key) := by have q := rA_get (rA_later HGR.out HPR.out hX) 0 _ rfl; simpa using q
          exact Or.inl ⟨(RY.wanted_at rfl rfl rfl gd).trans rfl, Or.inl ⟨.string r.key, X, by simp [execOp, go_sem, e48, yc], Below.refl _ _, rfl⟩⟩
        | 17, ho =>
          injection ho with ho; subst ho
          have gd := hd 6 _ 39 rfl rfl ⟨⟨6, .guard⟩, by simp, rfl, rfl⟩
          have e44 : a.tmps[44]?.getD undef = .agg #[.string y.kind, .string y.name, .slice la acc.length lc] := (RY.ev_tmp a 44).trans (hd 11 _ 44 rfl rfl ⟨⟨11, .data⟩, by simp, rfl, rfl⟩)
          have e49 : a.tmps[49]?.getD undef = .string r.key := (RY.ev_tmp a 49).trans (hd 16 _ 49 rfl rfl ⟨⟨16, .data⟩, by simp, rfl, rfl⟩)
          refine Or.inl ⟨(RY.wanted_at rfl rfl rfl gd).trans rfl, Or.inr ⟨18, #[.agg #[.string y.kind, .string y.name, .slice la acc.length lc], .string r.key], by simp [go_sem, e44, e49], (HCO.out X hX).mono ?_⟩⟩
          rintro e W' ⟨v, F, rfl, hr, nd, fr, hb⟩
          obtain ⟨a1, m1, rfl⟩ := hr.raw.len0
          exact ⟨_, rfl, hb, a1, m1, rfl⟩
        | 18, ho =>
          injection ho with ho; subst ho
          have gd := hd 6 _ 39 rfl rfl ⟨⟨6, .guard⟩, by simp, rfl, rfl⟩
          obtain ⟨a50, m50, q50⟩ := hd 17 _ 50 rfl rfl ⟨⟨17, .data⟩, by simp, rfl, rfl⟩
          have e50 : a.tmps[50]?.getD undef = .slice a50 (Pl.linesOf acc r.key).length m50 := (RY.ev_tmp a 50).trans q50
          exact Or.inl ⟨(RY.wanted_at rfl rfl rfl gd).trans rfl, Or.inl ⟨.int .i64 ((Pl.linesOf acc r.key).length : Int), X, by simp [go_sem, e50], Below.refl _ _, rfl⟩⟩
        | 19, ho =>
          injection ho with ho; subst ho
          have gd := hd 6 _ 39 rfl rfl ⟨⟨6, .guard⟩, by simp, rfl, rfl⟩
          have e51 : a.tmps[51]?.getD undef = .int .i64 ((Pl.linesOf acc r.key).length : Int) := (RY.ev_tmp a 51).trans (hd 18 _ 51 rfl rfl ⟨⟨18, .data⟩, by simp, rfl, rfl⟩)
          exact Or.inl ⟨(RY.wanted_at rfl rfl rfl gd).trans rfl, Or.inl ⟨.bool (decide ((Pl.linesOf acc r.key).length = 0)), X, by simp [execOp, go_sem, e51, hfe], Below.refl _ _, rfl⟩⟩
        | 20, ho =>
          injection ho with ho; subst ho
          have e39 : a.tmps[39]?.getD undef = .bool true := (RY.ev_tmp a 39).trans (hd 6 _ 39 rfl rfl ⟨⟨6, .data⟩, by simp, rfl, rfl⟩)
          have e52 : a.tmps[52]?.getD undef = .bool (decide ((Pl.linesOf acc r.key).length = 0)) := (RY.ev_tmp a 52).trans (hd 19 _ 52 rfl rfl ⟨⟨19, .data⟩, by simp, rfl, rfl⟩)
          exact Or.inl ⟨RY.wanted_no rfl, Or.inl ⟨.bool (decide ((Pl.linesOf acc r.key).length = 0)), X, by simp [execOp, go_sem, e39, e52], Below.refl _ _, rfl⟩⟩
        | n + 21, ho => simp at ho
      intro X vs hX hvs
      have q53 : vs 53 = _ := hvs 20 _ 53 rfl rfl
      simp only [RY.putAll, Act.put, List.setIfInBounds_toArray, List.set_cons_zero, List.set_cons_succ]
      rw [q53]
      generalize vs 33 = s33
      generalize vs 34 = s34
      generalize vs 35 = s35
      generalize vs 36 = s36
      generalize vs 37 = s37
      generalize vs 38 = s38
      generalize vs 39 = s39
      generalize vs 40 = s40
      generalize vs 41 = s41
      generalize vs 42 = s42
      generalize vs 43 = s43
      generalize vs 44 = s44
      generalize vs 45 = s45
      generalize vs 46 = s46
      generalize vs 47 = s47
      generalize vs 48 = s48
      generalize vs 49 = s49
      generalize vs 50 = s50
      generalize vs 51 = s51
      generalize vs 52 = s52
      clear hvs q53
      replace HO := uh (HO.out.later hX)
      replace HFR := uh (HFR.out.later hX)
      replace HDX := uh (HDX.out.later hX)
      replace HDRr := uh (HDRr.out.later hX)
      replace HGX := uh (rA_later HGX.out HPZ.out hX)
      replace HPZ := uh (Nat.lt_of_lt_of_le HPZ.out hX.size)
      replace HGR := uh (rA_later HGR.out HPR.out hX)
      replace HPR := uh (Nat.lt_of_lt_of_le HPR.out hX.size)
      replace HPN := uh (And.intro HPN.out.1 (Nat.le_trans HPN.out.2 hX.size))
      clear hX HCO hfe
      cases hfr : decide ((Pl.linesOf acc r.key).length = 0)
      · have HSQ : Hid (Pl.fillLs y.kind y.lines (rs.take (k + 1)) = acc) := by show _ = _; rw [HST.out]; unfold Pl.fillStep; rw [hmn, hfr]; rfl
        rw [← HSQ.out] at HO
        go_wp2
        go_roundw
        case rel => exact ⟨k + 1, by omega, by go_num, HFR.out, HO.out⟩
        case measure => simp [intOf]; omega
      have HSQ : Hid (Pl.fillLs y.kind y.lines (rs.take (k + 1)) = Pl.putLn y.kind acc ⟨r.key, r.dflt⟩) := by show _ = _; rw [HST.out]; unfold Pl.fillStep; rw [hmn, hfr]; rfl
      obtain ⟨X0, hX0⟩ : ∃ X0, X0 = X := ⟨_, rfl⟩
      rw [← hX0] at HO HFR HDX HDRr HGX HPZ HGR HPR HPN ⊢
      clear hX0
      have HCP := uh (fun (X : World) (hX : Below X0.heap.size X0 X) => l39PutLineD (S := fun b => lo ≤ b ∧ b ≠ p) (B := N) (lo := N) ⟨y.kind, y.name, acc⟩ ⟨r.key, r.dflt⟩ (.slice la acc.length lc) (.slice a3 r.dflt.length c3) X (HDX.out.later hX) (HDRr.out.later hX) (by have := HAS.out.1; show acc.length ≤ _; omega) (by have := HPN.out.2; have := hX.size; omega))
      go_upto_region 12 with fail
      refine RY.region_st X0 (Below.refl _ _) (VFc lo N px p o n m2 i rp ro nr rc k y acc r la a3 lc c3) (VFc_mono _ _ _ _ _ _ _ _ _ _ _ _ _ _ _ _ _ _ _ _) (fun _ W' => Free lo p W' [.row 44 shSheetRule] [rulesD rs] [.slice (some ⟨rp, ro, none⟩) nr rc] ∧ Xw w b0 px p o n m2 lo (.slice va n vc) (cur.set i ⟨y.kind, y.name, Pl.putLn y.kind acc ⟨r.key, r.dflt⟩⟩) W') 21 12 (by kernel_rfl) (by kernel_rfl) (by kernel_rfl) (by kernel_rfl) rfl [19, 20] (by kernel_rfl) (by kernel_rfl) _ rfl rfl (by kernel_rfl) ?_ ?_ ?_
      · intro ii o' ho hii a X hX hk hd
        have zpx := HO.out.x.later hX
        have zpxl := zpx.lt
        match ii, ho with
        | 0, ho =>
          injection ho with ho; subst ho
          have e3 : a.tmps[3]?.getD undef = .pointer (some ⟨px, 0, none⟩) := (RY.ev_tmp a 3).trans ((hk 3 (by kernel_rfl)).trans rfl)
          exact Or.inl ⟨.pointer (some ⟨px, 0, none⟩), X, by simp [execOp, go_sem, e3], Below.refl _ _, rfl⟩
        | 1, ho =>
          injection ho with ho; subst ho
          have e54 : a.tmps[54]?.getD undef = .pointer (some ⟨px, 0, none⟩) := (RY.ev_tmp a 54).trans (hd 0 _ 54 rfl rfl ⟨⟨0, .data⟩, by simp, rfl, rfl⟩ (by decide))
          have yc := zpx.get 0 _ rfl
          exact Or.inl ⟨.slice (some ⟨p, o, none⟩) n m2, X, by simp [execOp, go_sem, e54, yc], Below.refl _ _, rfl⟩
        | 2, ho =>
          injection ho with ho; subst ho
          have e4 : a.tmps[4]?.getD undef = .int .i64 (i : Int) := (RY.ev_tmp a 4).trans ((hk 4 (by kernel_rfl)).trans rfl)
          exact Or.inl ⟨.int .i64 (i : Int), X, by simp [execOp, go_sem, e4], Below.refl _ _, rfl⟩
        | 3, ho =>
          injection ho with ho; subst ho
          have e3 : a.tmps[3]?.getD undef = .pointer (some ⟨px, 0, none⟩) := (RY.ev_tmp a 3).trans ((hk 3 (by kernel_rfl)).trans rfl)
          exact Or.inl ⟨.pointer (some ⟨px, 0, none⟩), X, by simp [execOp, go_sem, e3], Below.refl _ _, rfl⟩
        | 4, ho =>
          injection ho with ho; subst ho
          have e57 : a.tmps[57]?.getD undef = .pointer (some ⟨px, 0, none⟩) := (RY.ev_tmp a 57).trans (hd 3 _ 57 rfl rfl ⟨⟨3, .data⟩, by simp, rfl, rfl⟩ (by decide))
          have yc := zpx.get 0 _ rfl
          exact Or.inl ⟨.slice (some ⟨p, o, none⟩) n m2, X, by simp [execOp, go_sem, e57, yc], Below.refl _ _, rfl⟩
        | 5, ho =>
          injection ho with ho; subst ho
          have e4 : a.tmps[4]?.getD undef = .int .i64 (i : Int) := (RY.ev_tmp a 4).trans ((hk 4 (by kernel_rfl)).trans rfl)
          exact Or.inl ⟨.int .i64 (i : Int), X, by simp [execOp, go_sem, e4], Below.refl _ _, rfl⟩
        | 6, ho =>
          injection ho with ho; subst ho
          have e58 : a.tmps[58]?.getD undef = .slice (some ⟨p, o, none⟩) n m2 := (RY.ev_tmp a 58).trans (hd 4 _ 58 rfl rfl ⟨⟨4, .data⟩, by simp, rfl, rfl⟩ (by decide))
          have e59 : a.tmps[59]?.getD undef = .int .i64 (i : Int) := (RY.ev_tmp a 59).trans (hd 5 _ 59 rfl rfl ⟨⟨5, .data⟩, by simp, rfl, rfl⟩ (by decide))
          exact Or.inl ⟨.pointer (some ⟨p, o + i * 3, none⟩), X, by simp [execOp, go_sem, e58, e59, hi0, hin], Below.refl _ _, rfl⟩
        | 7, ho =>
          injection ho with ho; subst ho
          have v60 : a.eval (.tmp 60) = .pointer (some ⟨p, o + i * 3, none⟩) := hd 6 _ 60 rfl rfl ⟨⟨6, .data⟩, by simp, rfl, rfl⟩ (by decide)
          exact Or.inl ⟨_, X, exec_load_mid 40 _ rfl p (o + i * 3) v60 [.string y.kind, .string y.name, .slice la acc.length lc] _ (rA_later HGX.out HPZ.out hX) Try.underlying40 rfl (by kernel_rfl), Below.refl _ _, rfl⟩
        | 8, ho =>
          injection ho with ho; subst ho
          have e5 : a.tmps[5]?.getD undef = .slice (some ⟨rp, ro, none⟩) nr rc := (RY.ev_tmp a 5).trans ((hk 5 (by kernel_rfl)).trans rfl)
          exact Or.inl ⟨.slice (some ⟨rp, ro, none⟩) nr rc, X, by simp [execOp, go_sem, e5], Below.refl _ _, rfl⟩
        | 9, ho =>
          injection ho with ho; subst ho
          have e6 : a.tmps[6]?.getD undef = .int .i64 (k : Int) := (RY.ev_tmp a 6).trans ((hk 6 (by kernel_rfl)).trans rfl)
          exact Or.inl ⟨.int .i64 (k : Int), X, by simp [execOp, go_sem, e6], Below.refl _ _, rfl⟩
        | 10, ho =>
          injection ho with ho; subst ho
          have e62 : a.tmps[62]?.getD undef = .slice (some ⟨rp, ro, none⟩) nr rc := (RY.ev_tmp a 62).trans (hd 8 _ 62 rfl rfl ⟨⟨8, .data⟩, by simp, rfl, rfl⟩ (by decide))
          have e63 : a.tmps[63]?.getD undef = .int .i64 (k : Int) := (RY.ev_tmp a 63).trans (hd 9 _ 63 rfl rfl ⟨⟨9, .data⟩, by simp, rfl, rfl⟩ (by decide))
          exact Or.inl ⟨.pointer (some ⟨rp, ro + k * 4, none⟩), X, by simp [execOp, go_sem, e62, e63, hk0, hkn], Below.refl _ _, rfl⟩
        | 11, ho =>
          injection ho with ho; subst ho
          have e64 : a.tmps[64]?.getD undef = .pointer (some ⟨rp, ro + k * 4, none⟩) := (RY.ev_tmp a 64).trans (hd 10 _ 64 rfl rfl ⟨⟨10, .data⟩, by simp, rfl, rfl⟩ (by decide))
          exact Or.inl ⟨.pointer (some ⟨rp, ro + k * 4, none⟩), X, by simp [execOp, go_sem, e64], Below.refl _ _, rfl⟩
        | 12, ho =>
          injection ho with ho; subst ho
          have e65 : a.tmps[65]?.getD undef = .pointer (some ⟨rp, ro + k * 4, none⟩) := (RY.ev_tmp a 65).trans (hd 11 _ 65 rfl rfl ⟨⟨11, .data⟩, by simp, rfl, rfl⟩ (by decide))
          have yp := Nat.lt_of_lt_of_le HPR.out hX.size
          have yc : X.cell? ⟨rp, ro + k * 4, none⟩ = some (.string r.key) := by have q := rA_get (rA_later HGR.out HPR.out hX) 0 _ rfl; simpa using q
          exact Or.inl ⟨.string r.key, X, by simp [execOp, go_sem, e65, yc], Below.refl _ _, rfl⟩
        | 13, ho =>
          injection ho with ho; subst ho
          have e5 : a.tmps[5]?.getD undef = .slice (some ⟨rp, ro, none⟩) nr rc := (RY.ev_tmp a 5).trans ((hk 5 (by kernel_rfl)).trans rfl)
          exact Or.inl ⟨.slice (some ⟨rp, ro, none⟩) nr rc, X, by simp [execOp, go_sem, e5], Below.refl _ _, rfl⟩
        | 14, ho =>
          injection ho with ho; subst ho
          have e6 : a.tmps[6]?.getD undef = .int .i64 (k : Int) := (RY.ev_tmp a 6).trans ((hk 6 (by kernel_rfl)).trans rfl)
          exact Or.inl ⟨.int .i64 (k : Int), X, by simp [execOp, go_sem, e6], Below.refl _ _, rfl⟩
        | 15, ho =>
          injection ho with ho; subst ho
          have e67 : a.tmps[67]?.getD undef = .slice (some ⟨rp, ro, none⟩) nr rc := (RY.ev_tmp a 67).trans (hd 13 _ 67 rfl rfl ⟨⟨13, .data⟩, by simp, rfl, rfl⟩ (by decide))
          have e68 : a.tmps[68]?.getD undef = .int .i64 (k : Int) := (RY.ev_tmp a 68).trans (hd 14 _ 68 rfl rfl ⟨⟨14, .data⟩, by simp, rfl, rfl⟩ (by decide))
          exact Or.inl ⟨.pointer (some ⟨rp, ro + k * 4, none⟩), X, by simp [execOp, go_sem, e67, e68, hk0, hkn], Below.refl _ _, rfl⟩
        | 16, ho =>
          injection ho with ho; subst ho
          have e69 : a.tmps[69]?.getD undef = .pointer (some ⟨rp, ro + k * 4, none⟩) := (RY.ev_tmp a 69).trans (hd 15 _ 69 rfl rfl ⟨⟨15, .data⟩, by simp, rfl, rfl⟩ (by decide))
          exact Or.inl ⟨.pointer (some ⟨rp, ro + k * 4 + 3, none⟩), X, by simp [execOp, go_sem, e69], Below.refl _ _, rfl⟩
        | 17, ho =>
          injection ho with ho; subst ho
          have e70 : a.tmps[70]?.getD undef = .pointer (some ⟨rp, ro + k * 4 + 3, none⟩) := (RY.ev_tmp a 70).trans (hd 16 _ 70 rfl rfl ⟨⟨16, .data⟩, by simp, rfl, rfl⟩ (by decide))
          have yp := Nat.lt_of_lt_of_le HPR.out hX.size
          have yc : X.cell? ⟨rp, ro + k * 4 + 3, none⟩ = some (.slice a3 r.dflt.length c3) := by have q := rA_get (rA_later HGR.out HPR.out hX) 3 _ rfl; simpa using q
          exact Or.inl ⟨.slice a3 r.dflt.length c3, X, by simp [execOp, go_sem, e70, yc], Below.refl _ _, rfl⟩
        | 18, ho =>
          injection ho with ho; subst ho
          have e66 : a.tmps[66]?.getD undef = .string r.key := (RY.ev_tmp a 66).trans (hd 12 _ 66 rfl rfl ⟨⟨12, .data⟩, by simp, rfl, rfl⟩ (by decide))
          have e71 : a.tmps[71]?.getD undef = .slice a3 r.dflt.length c3 := (RY.ev_tmp a 71).trans (hd 17 _ 71 rfl rfl ⟨⟨17, .data⟩, by simp, rfl, rfl⟩ (by decide))
          exact Or.inl ⟨.agg #[.string r.key, .slice a3 r.dflt.length c3], X, by simp [execOp, go_sem, e66, e71], Below.refl _ _, rfl⟩
        | 19, ho =>
          injection ho with ho; subst ho
          have e61 : a.tmps[61]?.getD undef = .agg #[.string y.kind, .string y.name, .slice la acc.length lc] := (RY.ev_tmp a 61).trans (hd 7 _ 61 rfl rfl ⟨⟨7, .data⟩, by simp, rfl, rfl⟩ (by decide))
          have e72 : a.tmps[72]?.getD undef = .agg #[.string r.key, .slice a3 r.dflt.length c3] := (RY.ev_tmp a 72).trans (hd 18 _ 72 rfl rfl ⟨⟨18, .data⟩, by simp, rfl, rfl⟩ (by decide))
          refine Or.inr ⟨19, #[.agg #[.string y.kind, .string y.name, .slice la acc.length lc], .agg #[.string r.key, .slice a3 r.dflt.length c3]], by simp [go_sem, e61, e72], (HCP.out X hX).mono ?_⟩
          rintro e W' ⟨cc, rfl, hr, hb⟩
          exact ⟨_, rfl, hb, cc, rfl, hr⟩
        | 20, ho =>
          injection ho with ho; subst ho
          have e55 : a.tmps[55]?.getD undef = .slice (some ⟨p, o, none⟩) n m2 := (RY.ev_tmp a 55).trans (hd 1 _ 55 rfl rfl ⟨⟨1, .data⟩, by simp, rfl, rfl⟩ (by decide))
          have e56 : a.tmps[56]?.getD undef = .int .i64 (i : Int) := (RY.ev_tmp a 56).trans (hd 2 _ 56 rfl rfl ⟨⟨2, .data⟩, by simp, rfl, rfl⟩ (by decide))
          exact Or.inl ⟨.pointer (some ⟨p, o + i * 3, none⟩), X, by simp [execOp, go_sem, e55, e56, hi0, hin], Below.refl _ _, rfl⟩
        | n + 21, ho => omega
      · intro a X vals hX hk hV hd
        obtain ⟨cc, e1, hD⟩ := hV 19 (by decide)
        have e2 : a.eval (.tmp 73) = _ := (hd 19 _ 73 rfl rfl ⟨⟨19, .data⟩, by simp, rfl, rfl⟩ (by decide)).trans e1
        have e3 : a.eval (.tmp 74) = .pointer (some ⟨p, o + i * 3, none⟩) := (hd 20 _ 74 rfl rfl ⟨⟨20, .data⟩, by simp, rfl, rfl⟩ (by decide)).trans (hV 20 (by decide))
        obtain ⟨xa2, xc2, hc, hD2⟩ := dat_block hD
        subst hc
        have hO2 := HO.out.later hX
        have hth : X.there p (o + i * 3) 3 := hO2.row.there (by rw [List.length_set, HCL.out]; exact hlt)
        refine ⟨X.setCells p (o + i * 3) [.string y.kind, .string y.name, .slice xa2 (Pl.putLn y.kind acc ⟨r.key, r.dflt⟩).length xc2], RY.exec_store_mid _ _ _ rfl e3 e2 hth (by kernel_rfl) (by simp [Value.oneCell']), ?_, ?_⟩
        · exact (HFR.out.later hX).keep (mks_scs (S := fun b => b = p) rfl _ _ _)
        · have := hO2.put HBZ.out HLO.out HPP.out (by rw [List.length_set, HCL.out]; exact hlt) ⟨y.kind, y.name, Pl.putLn y.kind acc ⟨r.key, r.dflt⟩⟩ hD2 HPN.out.1
          rw [Pl.set_set'] at this
          exact this
      · intro vals vs X hK hvs
        simp only [RY.putAll, Act.put, List.setIfInBounds_toArray, List.set_cons_zero, List.set_cons_succ]
        generalize vs 54 = s54
        generalize vs 55 = s55
        generalize vs 56 = s56
        generalize vs 57 = s57
        generalize vs 58 = s58
        generalize vs 59 = s59
        generalize vs 60 = s60
        generalize vs 61 = s61
        generalize vs 62 = s62
        generalize vs 63 = s63
        generalize vs 64 = s64
        generalize vs 65 = s65
        generalize vs 66 = s66
        generalize vs 67 = s67
        generalize vs 68 = s68
        generalize vs 69 = s69
        generalize vs 70 = s70
        generalize vs 71 = s71
        generalize vs 72 = s72
        generalize vs 73 = s73
        generalize vs 74 = s74
        clear hvs
        obtain ⟨hR, hO⟩ := hK
        rw [← HSQ.out] at hO
        have HN2 := uh (And.intro hR hO)
        clear hO hR HO HFR
        go_wp2
        go_roundw
        case rel => exact ⟨k + 1, by omega, by go_num, HN2.out.1, HN2.out.2⟩
        case measure => simp [intOf]; omega


end Go.Proofs.Ytfmhfacaemfhlaa
