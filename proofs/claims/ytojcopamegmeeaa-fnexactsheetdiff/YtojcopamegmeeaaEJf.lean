/-
  Sheets: the edits of two sheets: the program.
-/
import Derived.Test.YtojcopamegmeeaaELc
import Derived.Test.YtojcopamegmeeaaEJe
import Derived.Test.YtojcopamegmeeaaEVp
import Derived.Test.YtojcopamegmeeaaEVd
import Derived.Test.YtojcopamegmeeaaEOp
namespace Go.Proofs.Ytojcopamegmeeaa
open Go.RowKit Go.Deep


/-- While a sheet is laid over another one. -/
structure Ov (w : World) (b0 px : Nat) (uv ov : Value) (acc : List Pl.Bl) (xv : Value) (W : World) : Prop where
  bel : Below w.heap.size w W
  ub : LBox W b0 [uv]
  ob : LBox W (b0 + 1) [ov]
  res : WBox W (b0 + 2) 30 [.slice none 0 0]
  x : WBox W px 30 [xv]
  dat : Dat (fun _ => True) b0 (px + 1) W shBls [blsD acc] [xv]
theorem Ov.later {w W W' : World} {b0 px : Nat} {uv ov xv : Value} {acc : List Pl.Bl} (h : Ov w b0 px uv ov acc xv W) (hb : Below W.heap.size W W') : Ov w b0 px uv ov acc xv W' := ⟨blw_trans h.bel hb, h.ub.later hb, h.ob.later hb, h.res.later hb, h.x.later hb, h.dat.later hb⟩
theorem Ov.put {w W : World} {b0 px : Nat} {uv ov xv yv : Value} {acc acc' : List Pl.Bl} (h : Ov w b0 px uv ov acc xv W) (hb : b0 = w.heap.size) (hp : b0 + 3 ≤ px) (hd : Dat (fun _ => True) b0 (px + 1) W shBls [blsD acc'] [yv]) : Ov w b0 px uv ov acc' yv (W.setCells px 0 [yv]) := by
  have hm : Marks (fun b => b = px) W (W.setCells px 0 [yv]) := mks_scs (S := fun b => b = px) rfl _ _ _
  exact ⟨hm.below (fun b e => by omega) h.bel, h.ub.mks hm (by omega), h.ob.mks hm (by omega), h.res.mks hm (by omega), ⟨own_scs _ _ _ h.x.own, World.rangeAt_setCells_same _ _ _ _ (uthere h.x.own _ _ (by simp))⟩, hd.keep hm fun b e => by omega⟩
theorem Ov.mks {w W W' : World} {b0 px pb : Nat} {uv ov xv : Value} {acc : List Pl.Bl} (h : Ov w b0 px uv ov acc xv W) (hb : b0 = w.heap.size) (hx : b0 + 3 ≤ px) (hp : px < pb) (hm : Marks (fun b => b = pb) W W') (hd : Dat (fun _ => True) b0 (px + 1) W' shBls [blsD acc] [xv]) : Ov w b0 px uv ov acc xv W' :=
  ⟨hm.below (fun b e => by omega) h.bel, h.ub.mks hm (by omega), h.ob.mks hm (by omega), h.res.mks hm (by omega), h.x.mks hm (by omega), hd⟩
def VOv (b0 : Nat) (px : Nat) (pb : Nat) (p : Nat) (o2 : Nat) (uc : Nat) (j : Nat) (u : List Pl.Bl) (y : Pl.Bl) (z : Pl.Bl) (ya : Option Addr) (za : Option Addr) (yc : Nat) (zc : Nat) : Nat → Value → World → Prop
  | 0, vv, _ => vv = .pointer (some ⟨b0, 0, none⟩)
  | 1, vv, _ => vv = .slice (some ⟨p, o2, none⟩) u.length uc
  | 2, vv, _ => vv = .int .i64 (j : Int)
  | 3, vv, _ => vv = .pointer (some ⟨p, o2 + j * 3, none⟩)
  | 4, vv, _ => vv = .agg #[.string z.kind, .string z.name, .slice za z.lines.length zc]
  | 5, vv, _ => vv = .agg #[.string y.kind, .string y.name, .slice ya y.lines.length yc]
  | 6, vv, W => ∃ c, vv = .agg c.toArray ∧ Dat (fun b => (True ∧ b < b0) ∨ px + 1 ≤ b) pb (pb + 1) W shSheetBlock (blD (Pl.ovBl z y)) c
  | _, _, _ => True
theorem VOv_mono (b0 : Nat) (px : Nat) (pb : Nat) (p : Nat) (o2 : Nat) (uc : Nat) (j : Nat) (u : List Pl.Bl) (y : Pl.Bl) (z : Pl.Bl) (ya : Option Addr) (za : Option Addr) (yc : Nat) (zc : Nat) : ∀ jj vv W W', Below W.heap.size W W' → VOv b0 px pb p o2 uc j u y z ya za yc zc jj vv W → VOv b0 px pb p o2 uc j u y z ya za yc zc jj vv W' := by
  intro jj vv W W' hb h
  match jj with
  | 0 => exact h
  | 1 => exact h
  | 2 => exact h
  | 3 => exact h
  | 4 => exact h
  | 5 => exact h
  | 6 =>
    obtain ⟨c, h1, h2⟩ := h
    exact ⟨c, h1, h2.later hb⟩
  | n + 7 => exact trivial
def VOw (b0 : Nat) (p : Nat) (o2 : Nat) (uc : Nat) (oc : Nat) (k : Nat) (u : List Pl.Bl) (o : List Pl.Bl) (z : Pl.Bl) (oa : Option Addr) : Nat → Value → World → Prop
  | 0, vv, _ => vv = .agg #[.slice oa o.length oc]
  | 1, vv, _ => vv = .pointer (some ⟨b0, 0, none⟩)
  | 2, vv, _ => vv = .slice (some ⟨p, o2, none⟩) u.length uc
  | 3, vv, _ => vv = .int .i64 (k : Int)
  | 4, vv, _ => vv = .pointer (some ⟨p, o2 + k * 3, none⟩)
  | 5, vv, _ => vv = .pointer (some ⟨p, o2 + k * 3, none⟩)
  | 6, vv, _ => vv = .string z.kind
  | 7, vv, _ => vv = .pointer (some ⟨b0, 0, none⟩)
  | 8, vv, _ => vv = .slice (some ⟨p, o2, none⟩) u.length uc
  | 9, vv, _ => vv = .int .i64 (k : Int)
  | 10, vv, _ => vv = .pointer (some ⟨p, o2 + k * 3, none⟩)
  | 11, vv, _ => vv = .pointer (some ⟨p, o2 + k * 3 + 1, none⟩)
  | 12, vv, _ => vv = .string z.name
  | 13, vv, _ => vv = .int .i64 (Pl.ixI (Pl.findB o z.kind z.name))
  | 14, vv, _ => vv = .bool (Pl.noIn o z)
  | _, _, _ => True
theorem VOw_mono (b0 : Nat) (p : Nat) (o2 : Nat) (uc : Nat) (oc : Nat) (k : Nat) (u : List Pl.Bl) (o : List Pl.Bl) (z : Pl.Bl) (oa : Option Addr) : ∀ jj vv W W', Below W.heap.size W W' → VOw b0 p o2 uc oc k u o z oa jj vv W → VOw b0 p o2 uc oc k u o z oa jj vv W' := by
  intro jj vv W W' hb h
  match jj with
  | 0 => exact h
  | 1 => exact h
  | 2 => exact h
  | 3 => exact h
  | 4 => exact h
  | 5 => exact h
  | 6 => exact h
  | 7 => exact h
  | 8 => exact h
  | 9 => exact h
  | 10 => exact h
  | 11 => exact h
  | 12 => exact h
  | 13 => exact h
  | 14 => exact h
  | n + 15 => exact trivial
def VOx (b0 : Nat) (px : Nat) (p : Nat) (o2 : Nat) (uc : Nat) (k : Nat) (u : List Pl.Bl) (acc : List Pl.Bl) (z : Pl.Bl) (xa : Option Addr) (za : Option Addr) (xc : Nat) (zc : Nat) : Nat → Value → World → Prop
  | 0, vv, _ => vv = .agg #[.slice xa acc.length xc]
  | 1, vv, _ => vv = .pointer (some ⟨b0, 0, none⟩)
  | 2, vv, _ => vv = .slice (some ⟨p, o2, none⟩) u.length uc
  | 3, vv, _ => vv = .int .i64 (k : Int)
  | 4, vv, _ => vv = .pointer (some ⟨p, o2 + k * 3, none⟩)
  | 5, vv, _ => vv = .agg #[.string z.kind, .string z.name, .slice za z.lines.length zc]
  | 6, vv, W => ∃ c, vv = .agg c.toArray ∧ Dat (fun _ => True) b0 (px + 1) W shSheet [blsD (Pl.putBl acc z)] c
  | _, _, _ => True
theorem VOx_mono (b0 : Nat) (px : Nat) (p : Nat) (o2 : Nat) (uc : Nat) (k : Nat) (u : List Pl.Bl) (acc : List Pl.Bl) (z : Pl.Bl) (xa : Option Addr) (za : Option Addr) (xc : Nat) (zc : Nat) : ∀ jj vv W W', Below W.heap.size W W' → VOx b0 px p o2 uc k u acc z xa za xc zc jj vv W → VOx b0 px p o2 uc k u acc z xa za xc zc jj vv W' := by
  intro jj vv W W' hb h
  match jj with
  | 0 => exact h
  | 1 => exact h
  | 2 => exact h
  | 3 => exact h
  | 4 => exact h
  | 5 => exact h
  | 6 =>
    obtain ⟨c, h1, h2⟩ := h
    exact ⟨c, h1, h2.later hb⟩
  | n + 7 => exact trivial

end Go.Proofs.Ytojcopamegmeeaa

namespace Go.Proofs.Ytojcopamegmeeaa
open Go.RowKit Go.Deep

theorem EdS.later {B W W' : World} {s : Value} {m : List Pl.Ch} {ys : List Value} (h : EdS B W s m ys) (hb : Below W.heap.size W W') : EdS B W' s m ys := by
  refine ⟨h.len, fun i hi => (h.els i hi).later hb, ?_⟩
  rcases h.at_ with q | ⟨p, o, c, e, hp, hc⟩
  · exact Or.inl q
  · exact Or.inr ⟨p, o, c, e, Nat.lt_of_lt_of_le hp hb.size, fun j u hj => (World.cell?_of_block (a := ⟨p, o + j, none⟩) (hb.block p hp)).trans (hc j u hj)⟩
def VFa (w0 : World) (mk : Nat) (z0 : Nat) (p : Nat) (o : Nat) (na : Nat) (ac : Nat) (qi : Nat) (an : Nat) (uc : Nat) (lo : Nat) (rc : Nat) (xc : Nat) (yc : Nat) (ua : Option Addr) (ra : Option Addr) (xa : Option Addr) (ya : Option Addr) (x : Pl.Bl) (y : Pl.Bl) (dl : List Pl.Ch) : Nat → Value → World → Prop
  | 0, vv, _ => vv = .slice ua an uc
  | 1, vv, _ => vv = .map (some mk)
  | 2, vv, _ => vv = .pointer (some ⟨z0, 0, none⟩)
  | 3, vv, _ => vv = .string y.kind
  | 4, vv, _ => vv = .agg #[.slice ra (Pl.rulesOf x.kind).length rc]
  | 5, vv, _ => vv = .slice (some ⟨p, o, none⟩) na ac
  | 6, vv, _ => vv = .int .i64 (qi : Int)
  | 7, vv, _ => vv = .pointer (some ⟨p, o + qi * 3, none⟩)
  | 8, vv, _ => vv = .agg #[.string x.kind, .string x.name, .slice xa x.lines.length xc]
  | 9, vv, _ => vv = .agg #[.string y.kind, .string y.name, .slice ya y.lines.length yc]
  | 10, vv, W => ∃ y1 y2 ys, vv = .slice y1 dl.length y2 ∧ EdR w0 lo W (.slice y1 dl.length y2) dl ys
  | _, _, _ => True
theorem VFa_mono (w0 : World) (mk : Nat) (z0 : Nat) (p : Nat) (o : Nat) (na : Nat) (ac : Nat) (qi : Nat) (an : Nat) (uc : Nat) (lo : Nat) (rc : Nat) (xc : Nat) (yc : Nat) (ua : Option Addr) (ra : Option Addr) (xa : Option Addr) (ya : Option Addr) (x : Pl.Bl) (y : Pl.Bl) (dl : List Pl.Ch) : ∀ jj vv W W', Below W.heap.size W W' → VFa w0 mk z0 p o na ac qi an uc lo rc xc yc ua ra xa ya x y dl jj vv W → VFa w0 mk z0 p o na ac qi an uc lo rc xc yc ua ra xa ya x y dl jj vv W' := by
  intro jj vv W W' hb h
  match jj with
  | 0 => exact h
  | 1 => exact h
  | 2 => exact h
  | 3 => exact h
  | 4 => exact h
  | 5 => exact h
  | 6 => exact h
  | 7 => exact h
  | 8 => exact h
  | 9 => exact h
  | 10 =>
    obtain ⟨y1, y2, ys, h1, h2⟩ := h
    exact ⟨y1, y2, ys, h1, h2.later hb⟩
  | n + 11 => exact trivial
def VFb (w0 : World) (z0 : Nat) (an : Nat) (uc : Nat) (yc : Nat) (ua : Option Addr) (ya : Option Addr) (y : Pl.Bl) : Nat → Value → World → Prop
  | 0, vv, _ => vv = .slice ua an uc
  | 1, vv, _ => vv = .agg #[.string y.kind, .string y.name, .slice ya y.lines.length yc]
  | 2, vv, _ => vv = .agg #[.string y.kind, .string y.name]
  | 3, vv, _ => vv = .pointer (some ⟨z0, 2, none⟩)
  | 4, vv, _ => vv = .slice ya y.lines.length yc
  | 5, vv, _ => vv = .agg #[.string y.kind, .string y.name, .slice ya y.lines.length yc]
  | 6, vv, _ => vv = .iface 94 (.agg #[.string y.kind, .string y.name, .slice ya y.lines.length yc])
  | 7, vv, W => ∃ y1, vv = .slice y1 1 1 ∧ EdS w0 W (.slice y1 1 1) [Pl.newCh y] [.iface 94 (.agg #[.string y.kind, .string y.name, .slice ya y.lines.length yc])]
  | _, _, _ => True
theorem VFb_mono (w0 : World) (z0 : Nat) (an : Nat) (uc : Nat) (yc : Nat) (ua : Option Addr) (ya : Option Addr) (y : Pl.Bl) : ∀ jj vv W W', Below W.heap.size W W' → VFb w0 z0 an uc yc ua ya y jj vv W → VFb w0 z0 an uc yc ua ya y jj vv W' := by
  intro jj vv W W' hb h
  match jj with
  | 0 => exact h
  | 1 => exact h
  | 2 => exact h
  | 3 => exact h
  | 4 => exact h
  | 5 => exact h
  | 6 => exact h
  | 7 =>
    obtain ⟨y1, h1, h2⟩ := h
    exact ⟨y1, h1, h2.later hb⟩
  | n + 8 => exact trivial
theorem diffTo_stepJ {ga : List Pl.Ch} {a b : List Pl.Bl} {k : Nat} (hk : k < b.length) : diffTo ga a b (k + 1) = diffTo ga a b k ++ Pl.diffOne a (b.getD k Pl.blNo) := by
  unfold diffTo
  rw [Pl.take_snocD Pl.blNo b k hk, List.flatMap_append, List.flatMap_singleton, List.append_assoc]
theorem findF_is {kind name : ByteArray} : ∀ (l : List Pl.Bl) (jj k : Nat), Pl.findF kind name l jj = some k → Pl.isB kind name (l.getD (k - jj) Pl.blNo) = true
  | [], _, _, h => by simp [Pl.findF] at h
  | b :: l, jj, k, h => by
    rw [Pl.findF] at h
    split at h
    · rename_i q
      injection h with h; subst h
      rw [Nat.sub_self]
      exact q
    · have h1 := findF_is l (jj + 1) k h
      have h2 := (Pl.findF_lt l (jj + 1) k h).1
      have e : k - jj = (k - (jj + 1)) + 1 := by omega
      rw [e, List.getD_cons_succ]
      exact h1
theorem findB_is {s : List Pl.Bl} {kind name : ByteArray} {k : Nat} (h : Pl.findB s kind name = some k) : (s.getD k Pl.blNo).kind = kind ∧ (s.getD k Pl.blNo).name = name := by
  have := findF_is s 0 k h
  rw [Nat.sub_zero] at this
  unfold Pl.isB at this
  rw [Bool.and_eq_true] at this
  exact ⟨tl_inj (by simpa using this.1), tl_inj (by simpa using this.2)⟩
theorem kind_szJ {k : ByteArray} (h : (Pl.rulesOf k).length ≠ 0) : k.size ≤ 200 := by
  have tz : k.toList.length = k.size := by
    cases k with
    | mk a => rw [Pl.tl]; exact Array.length_toList
  rw [← tz]
  unfold Pl.rulesOf at h
  split at h
  · rename_i q; rw [eq_of_beq q]; decide
  · split at h
    · rename_i q; rw [eq_of_beq q]; decide
    · split at h
      · rename_i q; rw [eq_of_beq q]; decide
      · exact absurd rfl h
theorem hsz_valid {s : List Pl.Bl} (h : Pl.validS s = true) (hz : okTx s) : Hsz s := fun i hi => by
  have e : s.getD i Pl.blNo = s[i] := by simp [hi]
  have h1 := valid_at h hi
  unfold Pl.blockOkAt at h1
  rw [Bool.and_eq_true, Bool.and_eq_true, Bool.and_eq_true] at h1
  refine ⟨?_, by rw [e]; exact (hz _ (List.getElem_mem hi)).1⟩
  have := kind_szJ (k := (s.getD i Pl.blNo).kind) (fun q => by have := h1.1.1.1; rw [q] at this; simp at this)
  unfold maxLen; omega
/-- The kinds, looked up wherever one goes. -/
theorem Kn.looks {W : World} {mb : Nat} {vt vb vs : Value} (h : Kn W mb vt vb vs) (kind : ByteArray) : ∃ ra rc, ∀ X, Below W.heap.size W X → (Instr.lookup 78 (.map (some mb)) (.string kind) false).run Try.prog X = .ok (.agg #[.slice ra (Pl.rulesOf kind).length rc]) X ∧ Raw X [.row 73 shSheetRule] [rulesD (Pl.rulesOf kind)] [.slice ra (Pl.rulesOf kind).length rc] := by
  obtain ⟨ra, rc, e, hr⟩ := h.rules kind
  refine ⟨ra, rc, fun X hX => ⟨?_, hr.later hX⟩⟩
  have := look_kind (h.later hX).map kind
  rw [e] at this
  exact this
theorem diff_list_len (a b : List Pl.Bl) (ha : a.length ≤ 60) (k : Nat) (hb : k ≤ 60) (hk : k ≤ b.length) : (diffTo ((a.filter (Pl.noIn b)).map Pl.goneCh) a b k).length ≤ 800 := by
  unfold diffTo
  rw [List.length_append, List.length_map]
  have h1 := List.length_filter_le (Pl.noIn b) a
  have h2 := diffs_len a (b.take k)
  rw [List.length_take] at h2
  omega
set_option maxRecDepth 8000 in
set_option maxHeartbeats 16000000 in
theorem sheetEditsI (a b : List Pl.Bl) (av bv : Value) (w0 : World) (ha : Raw w0 shBls [blsD a] [av]) (hb : Raw w0 shBls [blsD b] [bv]) (hva : Pl.validS a = true) (hvb : Pl.validS b = true) (hza : okTx a) (hzb : okTx b) (hla : ∀ z ∈ a, z.lines.length ≤ 4194304) (hlb : ∀ z ∈ b, z.lines.length ≤ 4194304) :
    Calls Try.prog 20 #[av, bv] w0 fun e w' => ∃ v xs, e = .returned v ∧ EdR w0 w0.heap.size w' v ((a.filter (Pl.noIn b)).map Pl.goneCh ++ b.flatMap (Pl.diffOne a)) xs ∧ Below w0.heap.size w0 w' := by
  obtain ⟨aa, ac, rfl⟩ := ha.len0
  obtain ⟨ba, bc, rfl⟩ := hb.len0
  have HA := uh ha
  have HB := uh hb
  have HLA := uh hla
  have HLB := uh hlb
  have HSA := uh (hsz_valid hva hza)
  have HSB := uh (hsz_valid hvb hzb)
  have HPA := uh (hap_valid hva)
  have HPB := uh (hap_valid hvb)
  have hna60 := Pl.valid_len hva
  have hnb60 := Pl.valid_len hvb
  have HML := uh (And.intro hna60 hnb60)
  clear ha hb hva hvb hza hzb hla hlb
  obtain ⟨na, hna⟩ : ∃ n, n = a.length := ⟨_, rfl⟩
  obtain ⟨nb, hnb⟩ : ∃ n, n = b.length := ⟨_, rfl⟩
  have HNA := uh hna
  have HNB := uh hnb
  have e1 : a.length = na := hna.symm
  have e2 : b.length = nb := hnb.symm
  clear hna hnb
  rw [e1] at hna60
  rw [e2] at hnb60
  rw [e1, e2]
  clear e1 e2
  have HCK := uh (kindsK w0)
  go_enter Try.func20, Try.ntmps20
  go_wp2_with fail
  refine HCK.out.mono ?_
  rintro e w1 ⟨mk, vt, vb, vs, rfl, hkn, hb1⟩
  have HKN := uh hkn
  have HB1 := uh hb1
  clear hkn hb1 HCK
  have HP1 := uh (placesI a (.slice aa na ac) w1 (by rw [HNA.out]; exact HA.out.later HB1.out) HSA.out HPA.out)
  go_wp2_with fail
  refine HP1.out.mono ?_
  rintro e w2 ⟨ma, rfl, hma, hb2⟩
  have HMA := uh hma
  have HB2 := uh (blw_trans HB1.out hb2)
  replace HKN := uh (HKN.out.later hb2)
  clear hma hb2 HP1
  have HP2 := uh (placesI b (.slice ba nb bc) w2 (by rw [HNB.out]; exact HB.out.later HB2.out) HSB.out HPB.out)
  go_wp2_with fail
  refine HP2.out.mono ?_
  rintro e wk ⟨mb, rfl, hmb, hb3⟩
  have HMB := uh hmb
  have HBK := uh (blw_trans HB2.out hb3)
  replace HKN := uh (HKN.out.later hb3)
  replace HMA := uh (HMA.out.later hb3)
  clear hmb hb3 HP2 HB1 HB2
  have HE0 := uh (EdR.nil w0 wk.heap.size wk)
  go_wp2
  go_loopw [8, 24] (fun vo vi wr => ∃ (k : Nat) (xs : List Value), k ≤ na ∧ vi = .int .i64 k ∧ EdR w0 wk.heap.size wr vo (goneTo a b k) xs ∧ Below wk.heap.size wk wr) (fun _ vi _ => na - (intOf vi).toNat)
  case atStart => exact ⟨0, [], Nat.zero_le _, rfl, HE0.out, Below.refl _ _⟩
  case round =>
    obtain ⟨k, xs, hk, rfl, hE, hB⟩ := hrel
    have HE := uh hE
    have HBr := uh hB
    obtain ⟨ua, uc, huu⟩ := hE.shape
    subst huu
    clear hE hB HE0
    by_cases hlt : k < na
    rotate_left
    · have hks : goneTo a b k = (a.filter (Pl.noIn b)).map Pl.goneCh := by unfold goneTo; rw [List.take_of_length_le (by have := HNA.out; omega)]
      rw [hks] at HE ⊢
      obtain ⟨ga, hga⟩ : ∃ ga, ga = (a.filter (Pl.noIn b)).map Pl.goneCh := ⟨_, rfl⟩
      have HGA := uh hga
      rw [← hga] at HE ⊢
      clear hks hga
      go_wp2
      go_loopw [8, 47] (fun vo vi wr => ∃ (k : Nat) (xs : List Value), k ≤ nb ∧ vi = .int .i64 k ∧ EdR w0 wk.heap.size wr vo (diffTo ga a b k) xs ∧ Below wk.heap.size wk wr) (fun _ vi _ => nb - (intOf vi).toNat)
      case atStart => exact ⟨0, xs, Nat.zero_le _, rfl, by rw [show diffTo ga a b 0 = ga by simp [diffTo]]; exact HE.out, HBr.out⟩
      case round =>
        obtain ⟨k2, xs2, hk2, rfl, hE, hB⟩ := hrel
        clear HE HBr
        have HE := uh hE
        have HBr := uh hB
        obtain ⟨ua2, uc2, huu⟩ := hE.shape
        subst huu
        clear hE hB
        by_cases hlt2 : k2 < nb
        rotate_left
        · have hks : diffTo ga a b k2 = ga ++ b.flatMap (Pl.diffOne a) := by unfold diffTo; rw [List.take_of_length_le (by have := HNB.out; omega)]
          obtain ⟨dd, hdd⟩ : ∃ z, z = diffTo ga a b k2 := ⟨_, rfl⟩
          rw [← hdd] at HE hks ⊢
          have HD : Hid (EdR w0 w0.heap.size wr (.slice ua2 dd.length uc2) (ga ++ b.flatMap (Pl.diffOne a)) xs2) := by rw [← hks]; exact HE.out.weak HBK.out.size
          clear hks hdd HE
          go_wp2
          go_ret
          rw [HGA.out] at HD
          exact ⟨_, xs2, rfl, HD.out, blw_trans HBK.out HBr.out⟩
        have hkL : k2 < b.length := by have := HNB.out; omega
        rcases bls_open (HB.out.later (blw_trans HBK.out HBr.out)) with ⟨e0, _⟩ | ⟨p2, o2, c2, hv, hp, hml, hopen⟩
        · omega
        rw [← HNB.out] at hv
        injection hv with g1 _ g3
        subst g1; subst g3
        obtain ⟨ya, yc, hgy, hry⟩ := hopen k2 hkL
        have HST := uh (diffTo_stepJ (ga := ga) (a := a) hkL)
        have hgl := diff_list_len a b HML.out.1 k2 (by omega) (by omega)
        rw [← HGA.out] at hgl
        have HSZ := uh (HSB.out k2 hkL)
        have HLY : Hid ((b.getD k2 Pl.blNo).lines.length ≤ 4194304) := by
          have e : b.getD k2 Pl.blNo = b[k2] := by simp [hkL]
          show _ ≤ _
          rw [e]; exact HLB.out _ (List.getElem_mem hkL)
        have HRY0 : Hid (∃ z, Raw w0 shLns [lnsD (b.getD k2 Pl.blNo).lines] [z] ∧ z = .slice ya (b.getD k2 Pl.blNo).lines.length yc) := by
          rcases bls_open HB.out with ⟨e0, _⟩ | ⟨p3, o3, c3, hv3, hp3, _, hopen3⟩
          · omega
          obtain ⟨ya3, yc3, hgy3, hry3⟩ := hopen3 k2 hkL
          rw [← HNB.out] at hv3
          injection hv3 with q1 _ _
          injection q1 with q1
          injection q1 with q4 q5
          subst q4; subst q5
          have hg4 := rA_later hgy3 hp3 (blw_trans HBK.out HBr.out)
          have hh := rA_get hgy 2 _ rfl
          have hh3 := rA_get hg4 2 _ rfl
          rw [hh] at hh3
          injection hh3 with hh3
          exact ⟨_, hry3, hh3.symm⟩
        obtain ⟨y, hy⟩ : ∃ y, y = b.getD k2 Pl.blNo := ⟨_, rfl⟩
        rw [← hy] at hgy hry HST HSZ HLY HRY0
        obtain ⟨ac0, hac⟩ : ∃ z, z = diffTo ga a b k2 := ⟨_, rfl⟩
        rw [← hac] at HE HST hgl ⊢
        obtain ⟨an, han⟩ : ∃ z, z = ac0.length := ⟨_, rfl⟩
        have HAL : Hid (ac0.length ≤ 800) := hgl
        rw [← han] at HE hgl ⊢
        have HAN := uh han
        have hk0 : (0 : Int) ≤ (k2 : Int) := by omega
        have hkn : (k2 : Int) < (nb : Int) := by omega
        obtain ⟨w6, hw6⟩ : ∃ z, z = wr.alloc (.cells #[.string y.kind, .string y.name, .slice ya y.lines.length yc] 42) := ⟨_, rfl⟩
        have hb6 : Below wr.heap.size wr w6 := by rw [hw6]; exact blw_alloc (Below.refl _ _) _
        obtain ⟨z0, hz0⟩ : ∃ z, z = wr.heap.size := ⟨_, rfl⟩
        have HYB : Hid (LBox w6 z0 [.string y.kind, .string y.name, .slice ya y.lines.length yc]) := by show LBox _ _ _; rw [hw6]; exact LBox.new _ #[.string y.kind, .string y.name, .slice ya y.lines.length yc] _ _ hz0
        replace HBr := uh (blw_trans HBr.out hb6)
        replace HE := uh (HE.out.later hb6)
        obtain ⟨fo, hfo⟩ : ∃ z, z = Pl.findB a y.kind y.name := ⟨_, rfl⟩
        have HFO := uh hfo
        obtain ⟨fb, hfb⟩ : ∃ z, z = fo.isSome := ⟨_, rfl⟩
        obtain ⟨fi, hfi⟩ : ∃ z, z = fo.getD 0 := ⟨_, rfl⟩
        have HFB := uh hfb
        have HFI := uh hfi
        have HD1 : Hid (Pl.diffOne a y = diffFo a y fo) := by show _ = _; rw [hfo]; exact diffOne_fo a y
        have HLK : Hid (∀ X, Below w6.heap.size w6 X → (Instr.lookup 84 (.map (some ma)) (.agg #[.string y.kind, .string y.name]) true).run Try.prog X = .ok (.tuple #[.int .i64 (fi : Int), .bool fb]) X) := fun X hX => by
          rw [hfb, hfi, hfo]; exact hd_look (HMA.out.later (blw_trans HBr.out hX)) HSA.out HPA.out y.kind y.name HSZ.out.1 HSZ.out.2
        have HCH := uh (fun (X : World) => headOfI y.kind y.name (.slice ya y.lines.length yc) X)
        clear hy hac han hp hml hopen hgl hb6 hry hfb hfi hfo
        go_upto_region 14 with (refine wpList_load_mid rfl 42 _ rfl p2 (o2 + k2 * 3) rfl [.string y.kind, .string y.name, .slice ya y.lines.length yc] _ hgy Try.underlying42 rfl (by kernel_rfl) ?_)
        rw [← hw6, ← hz0]
        clear hw6 hz0 hgy
        have ya0 := HYB.out.at_
        have yl0 := HYB.out.lt
        go_wp2_with (refine wpList_load_mid rfl 42 _ rfl z0 0 rfl [.string y.kind, .string y.name, .slice ya y.lines.length yc] _ ya0 Try.underlying42 rfl (by kernel_rfl) ?_)
        refine (HCH.out w6).mono ?_
        rintro e w7 ⟨rfl, hb7⟩
        have hlk := HLK.out w7 hb7
        replace HBr := uh (blw_trans HBr.out hb7)
        replace HE := uh (HE.out.later hb7)
        replace HYB := uh (HYB.out.later hb7)
        clear hb7 ya0 yl0 HLK
        obtain ⟨ua, hua⟩ : ∃ z, z = ua2 := ⟨_, rfl⟩
        obtain ⟨uc, huc⟩ : ∃ z, z = uc2 := ⟨_, rfl⟩
        rw [← hua, ← huc] at HE ⊢
        clear hua huc
        cases fb
        · have hf0 : fo = none := by
            cases hh : fo with
            | none => rfl
            | some q => have := HFB.out; rw [hh] at this; cases this
          have HE1 : Hid (diffTo ga a b (k2 + 1) = ac0 ++ [Pl.newCh y]) := by show _ = _; rw [HST.out, HD1.out, hf0]; rfl
          have HDL : Hid ((1 : Nat) ≤ 100) := by show (1 : Nat) ≤ 100; decide
          have HNEW : Hid (∀ X, EdV w0 X (Pl.newCh y) (.iface 94 (.agg #[.string y.kind, .string y.name, .slice ya y.lines.length yc]))) := fun X => by
            obtain ⟨z, hz, e⟩ := HRY0.out
            subst e
            exact .new _ _ _ _ _ hz
          clear hf0
          go_upto_region 17 with fail
          refine RY.region_finC w7 (Below.refl _ _) (VFb w0 z0 an uc yc ua ya y) (VFb_mono _ _ _ _ _ _ _ _) (fun u W' => ∃ g' c' xs', u = .slice g' (an + 1) c' ∧ EdR w0 wk.heap.size W' u (ac0 ++ [Pl.newCh y]) xs' ∧ Below wk.heap.size wk W') 8 12 79 8 (by kernel_rfl) (by kernel_rfl) (by kernel_rfl) (by kernel_rfl) (by kernel_rfl) rfl (by kernel_rfl) _ _ rfl rfl rfl rfl rfl (by kernel_rfl) ?_ ?_ ?_
          · intro ii o' ho hii a X hX hk hd
            have zz0 := HYB.out.later hX
            have zz0l := zz0.lt
            match ii, ho with
            | 0, ho =>
              injection ho with ho; subst ho
              have e8 : a.tmps[8]?.getD undef = .slice ua an uc := (RY.ev_tmp a 8).trans ((hk 8 (RY.late_spec (by kernel_rfl))).trans rfl)
              exact Or.inl ⟨.slice ua an uc, X, by simp [execOp, go_sem, e8], Below.refl _ _, rfl⟩
            | 1, ho =>
              injection ho with ho; subst ho
              have v14 : a.eval (.tmp 14) = .pointer (some ⟨z0, 0, none⟩) := (hk 14 (RY.late_spec (by kernel_rfl))).trans rfl
              exact Or.inl ⟨_, X, exec_load_mid 42 _ rfl z0 0 v14 [.string y.kind, .string y.name, .slice ya y.lines.length yc] _ zz0.at_ Try.underlying42 rfl (by kernel_rfl), Below.refl _ _, rfl⟩
            | 2, ho =>
              injection ho with ho; subst ho
              have e72 : a.tmps[72]?.getD undef = .agg #[.string y.kind, .string y.name, .slice ya y.lines.length yc] := (RY.ev_tmp a 72).trans (hd 1 _ 72 rfl rfl ⟨⟨1, .data⟩, by simp, rfl, rfl⟩ (by decide))
              refine Or.inr ⟨41, #[.agg #[.string y.kind, .string y.name, .slice ya y.lines.length yc]], by simp [go_sem, e72], (headOfI y.kind y.name (.slice ya y.lines.length yc) X).mono ?_⟩
              rintro e W' ⟨rfl, hb⟩
              exact ⟨_, rfl, hb, rfl⟩
            | 3, ho =>
              injection ho with ho; subst ho
              have e14 : a.tmps[14]?.getD undef = .pointer (some ⟨z0, 0, none⟩) := (RY.ev_tmp a 14).trans ((hk 14 (RY.late_spec (by kernel_rfl))).trans rfl)
              exact Or.inl ⟨.pointer (some ⟨z0, 2, none⟩), X, by simp [execOp, go_sem, e14], Below.refl _ _, rfl⟩
            | 4, ho =>
              injection ho with ho; subst ho
              have e74 : a.tmps[74]?.getD undef = .pointer (some ⟨z0, 2, none⟩) := (RY.ev_tmp a 74).trans (hd 3 _ 74 rfl rfl ⟨⟨3, .data⟩, by simp, rfl, rfl⟩ (by decide))
              have ycl_ := zz0.get 2 _ rfl
              exact Or.inl ⟨.slice ya y.lines.length yc, X, by simp [execOp, go_sem, e74, ycl_], Below.refl _ _, rfl⟩
            | 5, ho =>
              injection ho with ho; subst ho
              have e73 : a.tmps[73]?.getD undef = .agg #[.string y.kind, .string y.name] := (RY.ev_tmp a 73).trans (hd 2 _ 73 rfl rfl ⟨⟨2, .data⟩, by simp, rfl, rfl⟩ (by decide))
              have e75 : a.tmps[75]?.getD undef = .slice ya y.lines.length yc := (RY.ev_tmp a 75).trans (hd 4 _ 75 rfl rfl ⟨⟨4, .data⟩, by simp, rfl, rfl⟩ (by decide))
              exact Or.inl ⟨.agg #[.string y.kind, .string y.name, .slice ya y.lines.length yc], X, by simp [execOp, go_sem, e73, e75], Below.refl _ _, rfl⟩
            | 6, ho =>
              injection ho with ho; subst ho
              have e76 : a.tmps[76]?.getD undef = .agg #[.string y.kind, .string y.name, .slice ya y.lines.length yc] := (RY.ev_tmp a 76).trans (hd 5 _ 76 rfl rfl ⟨⟨5, .data⟩, by simp, rfl, rfl⟩ (by decide))
              exact Or.inl ⟨.iface 94 (.agg #[.string y.kind, .string y.name, .slice ya y.lines.length yc]), X, by simp [execOp, go_sem, e76], Below.refl _ _, rfl⟩
            | 7, ho =>
              injection ho with ho; subst ho
              have e77 : a.tmps[77]?.getD undef = .iface 94 (.agg #[.string y.kind, .string y.name, .slice ya y.lines.length yc]) := (RY.ev_tmp a 77).trans (hd 6 _ 77 rfl rfl ⟨⟨6, .data⟩, by simp, rfl, rfl⟩ (by decide))
              exact Or.inl ⟨.slice (some ⟨X.heap.size, 0, none⟩) 1 1, X.alloc (.cells #[.iface 94 (.agg #[.string y.kind, .string y.name, .slice ya y.lines.length yc])] 51), by simp [execOp, go_sem, e77], blw_alloc (Below.refl _ _) _, some ⟨X.heap.size, 0, none⟩, rfl, EdS.one (HNEW.out X) 51⟩
            | n + 8, ho => omega
          · intro a X hX hk hd
            have e0 : a.eval (.tmp 71) = .slice ua an uc := hd 0 _ 71 rfl rfl ⟨⟨0, .data⟩, by simp, rfl, rfl⟩ (by decide)
            obtain ⟨y1, e1, hES⟩ := hd 7 _ 78 rfl rfl ⟨⟨7, .data⟩, by simp, rfl, rfl⟩ (by decide)
            obtain ⟨ux, uy, W2, hrun, hE2, hg2⟩ := ed_app 48 (HE.out.later hX) hES (blw_trans HBr.out hX).size (by have := HAL.out; have := HDL.out; rw [List.length_singleton]; omega)
            rw [List.length_singleton, ← HAN.out] at hrun hE2
            exact ⟨_, W2, uexec_append (.tmp 71) (.tmp 78) 48 rfl e0 e1 hrun, ux, uy, _, rfl, hE2, (HE.out.later hX).below (blw_trans HBr.out hX) hg2 (Nat.le_refl _)⟩
          · intro vs X hK e2
            simp only [RY.putAll, Act.put, List.setIfInBounds_toArray, List.set_cons_zero, List.set_cons_succ]
            rw [e2]
            generalize vs 71 = s71
            generalize vs 72 = s72
            generalize vs 73 = s73
            generalize vs 74 = s74
            generalize vs 75 = s75
            generalize vs 76 = s76
            generalize vs 77 = s77
            generalize vs 78 = s78
            generalize vs 79 = s79 at hK ⊢
            obtain ⟨g', c', xs', rfl, hE2, hbn⟩ := hK
            have HG2 := uh hE2
            have HB2 := uh hbn
            clear hE2 hbn
            go_wp2
            go_roundw
            case rel => exact ⟨k2 + 1, xs', by omega, by go_num, by rw [HE1.out]; exact HG2.out, HB2.out⟩
            case measure => simp [intOf]; omega
        · obtain ⟨qi, hqi⟩ : ∃ q, fo = some q := by
            cases hh : fo with
            | none => have := HFB.out; rw [hh] at this; cases this
            | some q => exact ⟨q, rfl⟩
          have hfq : qi = fi := by rw [HFI.out, hqi]; rfl
          subst hfq
          have hqL : qi < a.length := Pl.findB_lt (HFO.out.symm.trans hqi)
          have HIS := uh (findB_is (HFO.out.symm.trans hqi))
          have HD2 : Hid (Pl.diffOne a y = Pl.diffBl (a.getD qi Pl.blNo) y) := by show _ = _; rw [HD1.out, hqi]; rfl
          rcases bls_open HA.out with ⟨e0, _⟩ | ⟨p, o, c, hv, hp, hml, hopen⟩
          · omega
          rw [← HNA.out] at hv
          injection hv with g1 _ g3
          subst g1; subst g3
          obtain ⟨xa, xc, hgx, hrx⟩ := hopen qi hqL
          have HLX : Hid ((a.getD qi Pl.blNo).lines.length ≤ 4194304) := by
            have e : a.getD qi Pl.blNo = a[qi] := by simp [hqL]
            show _ ≤ _
            rw [e]; exact HLA.out _ (List.getElem_mem hqL)
          obtain ⟨x, hx⟩ : ∃ x, x = a.getD qi Pl.blNo := ⟨_, rfl⟩
          rw [← hx] at hgx hrx HLX HIS HD2
          obtain ⟨ra, rc, hlks⟩ := HKN.out.looks x.kind
          have HGX : Hid (w7.rangeAt p (o + qi * 3) [.string x.kind, .string x.name, .slice xa x.lines.length xc]) := rA_later hgx hp (blw_trans HBK.out HBr.out)
          have HPX := uh (Nat.lt_of_lt_of_le hp (blw_trans HBK.out HBr.out).size)
          have HLK : Hid (∀ X, Below w7.heap.size w7 X → (Instr.lookup 78 (.map (some mk)) (.string y.kind) false).run Try.prog X = .ok (.agg #[.slice ra (Pl.rulesOf x.kind).length rc]) X ∧ Raw X [.row 73 shSheetRule] [rulesD (Pl.rulesOf x.kind)] [.slice ra (Pl.rulesOf x.kind).length rc]) := fun X hX => by rw [← HIS.out.1]; exact hlks X (blw_trans HBr.out hX)
          obtain ⟨dl, hdl⟩ : ∃ z, z = Pl.diffBl x y := ⟨_, rfl⟩
          have HDL : Hid (dl.length ≤ 100) := by show _ ≤ _; rw [hdl]; have := diffBl_len x y; omega
          have HRX := uh hrx
          have HCD : Hid (∀ X, Below w7.heap.size w7 X → Calls Try.prog 42 #[.agg #[.slice ra (Pl.rulesOf x.kind).length rc], .agg #[.string x.kind, .string x.name, .slice xa x.lines.length xc], .agg #[.string y.kind, .string y.name, .slice ya y.lines.length yc]] X fun e w' => ∃ v xs, e = .returned v ∧ EdR w0 X.heap.size w' v dl xs ∧ Below X.heap.size X w') := fun X hX => by
            obtain ⟨z, hz, e⟩ := HRY0.out
            subst e
            rw [hdl]
            exact editsI x y ra xa ya rc xc yc w0 X (blw_trans HBK.out (blw_trans HBr.out hX)) (HLK.out X hX).2 HRX.out hz HIS.out.1 HIS.out.2 HLX.out HLY.out
          have HE1 : Hid (diffTo ga a b (k2 + 1) = ac0 ++ dl) := by show _ = _; rw [HST.out, HD2.out, hdl]
          have hq0 : (0 : Int) ≤ (qi : Int) := by omega
          have hqn : (qi : Int) < (na : Int) := by have := HNA.out; omega
          clear hx hgx hrx hp hopen hml hdl hlks hqL hqi
          go_upto_region 16 with fail
          refine RY.region_finC w7 (Below.refl _ _) (VFa w0 mk z0 p o na ac qi an uc w7.heap.size rc xc yc ua ra xa ya x y dl) (VFa_mono _ _ _ _ _ _ _ _ _ _ _ _ _ _ _ _ _ _ _ _ _) (fun u W' => ∃ g' c' xs', u = .slice g' (an + dl.length) c' ∧ EdR w0 wk.heap.size W' u (ac0 ++ dl) xs' ∧ Below wk.heap.size wk W') 11 12 70 8 (by kernel_rfl) (by kernel_rfl) (by kernel_rfl) (by kernel_rfl) (by kernel_rfl) rfl (by kernel_rfl) _ _ rfl rfl rfl rfl rfl (by kernel_rfl) ?_ ?_ ?_
          · intro ii o' ho hii a X hX hk hd
            have zz0 := HYB.out.later hX
            have zz0l := zz0.lt
            match ii, ho with
            | 0, ho =>
              injection ho with ho; subst ho
              have e8 : a.tmps[8]?.getD undef = .slice ua an uc := (RY.ev_tmp a 8).trans ((hk 8 (RY.late_spec (by kernel_rfl))).trans rfl)
              exact Or.inl ⟨.slice ua an uc, X, by simp [execOp, go_sem, e8], Below.refl _ _, rfl⟩
            | 1, ho =>
              injection ho with ho; subst ho
              have e5 : a.tmps[5]?.getD undef = .map (some mk) := (RY.ev_tmp a 5).trans ((hk 5 (RY.late_spec (by kernel_rfl))).trans rfl)
              exact Or.inl ⟨.map (some mk), X, by simp [execOp, go_sem, e5], Below.refl _ _, rfl⟩
            | 2, ho =>
              injection ho with ho; subst ho
              have e14 : a.tmps[14]?.getD undef = .pointer (some ⟨z0, 0, none⟩) := (RY.ev_tmp a 14).trans ((hk 14 (RY.late_spec (by kernel_rfl))).trans rfl)
              exact Or.inl ⟨.pointer (some ⟨z0, 0, none⟩), X, by simp [execOp, go_sem, e14], Below.refl _ _, rfl⟩
            | 3, ho =>
              injection ho with ho; subst ho
              have e61 : a.tmps[61]?.getD undef = .pointer (some ⟨z0, 0, none⟩) := (RY.ev_tmp a 61).trans (hd 2 _ 61 rfl rfl ⟨⟨2, .data⟩, by simp, rfl, rfl⟩ (by decide))
              have ycl_ := zz0.get 0 _ rfl
              exact Or.inl ⟨.string y.kind, X, by simp [execOp, go_sem, e61, ycl_], Below.refl _ _, rfl⟩
            | 4, ho =>
              injection ho with ho; subst ho
              have e60 : a.tmps[60]?.getD undef = .map (some mk) := (RY.ev_tmp a 60).trans (hd 1 _ 60 rfl rfl ⟨⟨1, .data⟩, by simp, rfl, rfl⟩ (by decide))
              have e62 : a.tmps[62]?.getD undef = .string y.kind := (RY.ev_tmp a 62).trans (hd 3 _ 62 rfl rfl ⟨⟨3, .data⟩, by simp, rfl, rfl⟩ (by decide))
              exact Or.inl ⟨.agg #[.slice ra (Pl.rulesOf x.kind).length rc], X, by simp [execOp, go_sem, e60, e62, (HLK.out X hX).1], Below.refl _ _, rfl⟩
            | 5, ho =>
              injection ho with ho; subst ho
              have e0 : a.tmps[0]?.getD undef = .slice (some ⟨p, o, none⟩) na ac := (RY.ev_tmp a 0).trans ((hk 0 (RY.late_spec (by kernel_rfl))).trans rfl)
              exact Or.inl ⟨.slice (some ⟨p, o, none⟩) na ac, X, by simp [execOp, go_sem, e0], Below.refl _ _, rfl⟩
            | 6, ho =>
              injection ho with ho; subst ho
              have e15 : a.tmps[15]?.getD undef = .int .i64 (qi : Int) := (RY.ev_tmp a 15).trans ((hk 15 (RY.late_spec (by kernel_rfl))).trans rfl)
              exact Or.inl ⟨.int .i64 (qi : Int), X, by simp [execOp, go_sem, e15], Below.refl _ _, rfl⟩
            | 7, ho =>
              injection ho with ho; subst ho
              have e64 : a.tmps[64]?.getD undef = .slice (some ⟨p, o, none⟩) na ac := (RY.ev_tmp a 64).trans (hd 5 _ 64 rfl rfl ⟨⟨5, .data⟩, by simp, rfl, rfl⟩ (by decide))
              have e65 : a.tmps[65]?.getD undef = .int .i64 (qi : Int) := (RY.ev_tmp a 65).trans (hd 6 _ 65 rfl rfl ⟨⟨6, .data⟩, by simp, rfl, rfl⟩ (by decide))
              exact Or.inl ⟨.pointer (some ⟨p, o + qi * 3, none⟩), X, by simp [execOp, go_sem, e64, e65, hq0, hqn], Below.refl _ _, rfl⟩
            | 8, ho =>
              injection ho with ho; subst ho
              have v66 : a.eval (.tmp 66) = .pointer (some ⟨p, o + qi * 3, none⟩) := hd 7 _ 66 rfl rfl ⟨⟨7, .data⟩, by simp, rfl, rfl⟩ (by decide)
              exact Or.inl ⟨_, X, exec_load_mid 42 _ rfl p (o + qi * 3) v66 [.string x.kind, .string x.name, .slice xa x.lines.length xc] _ (rA_later HGX.out HPX.out hX) Try.underlying42 rfl (by kernel_rfl), Below.refl _ _, rfl⟩
            | 9, ho =>
              injection ho with ho; subst ho
              have v14 : a.eval (.tmp 14) = .pointer (some ⟨z0, 0, none⟩) := (hk 14 (RY.late_spec (by kernel_rfl))).trans rfl
              exact Or.inl ⟨_, X, exec_load_mid 42 _ rfl z0 0 v14 [.string y.kind, .string y.name, .slice ya y.lines.length yc] _ zz0.at_ Try.underlying42 rfl (by kernel_rfl), Below.refl _ _, rfl⟩
            | 10, ho =>
              injection ho with ho; subst ho
              have e63 : a.tmps[63]?.getD undef = .agg #[.slice ra (Pl.rulesOf x.kind).length rc] := (RY.ev_tmp a 63).trans (hd 4 _ 63 rfl rfl ⟨⟨4, .data⟩, by simp, rfl, rfl⟩ (by decide))
              have e67 : a.tmps[67]?.getD undef = .agg #[.string x.kind, .string x.name, .slice xa x.lines.length xc] := (RY.ev_tmp a 67).trans (hd 8 _ 67 rfl rfl ⟨⟨8, .data⟩, by simp, rfl, rfl⟩ (by decide))
              have e68 : a.tmps[68]?.getD undef = .agg #[.string y.kind, .string y.name, .slice ya y.lines.length yc] := (RY.ev_tmp a 68).trans (hd 9 _ 68 rfl rfl ⟨⟨9, .data⟩, by simp, rfl, rfl⟩ (by decide))
              refine Or.inr ⟨42, #[.agg #[.slice ra (Pl.rulesOf x.kind).length rc], .agg #[.string x.kind, .string x.name, .slice xa x.lines.length xc], .agg #[.string y.kind, .string y.name, .slice ya y.lines.length yc]], by simp [go_sem, e63, e67, e68], (HCD.out X hX).mono ?_⟩
              rintro e W' ⟨v, ys, rfl, hE, hb⟩
              obtain ⟨x1, x2, hx⟩ := hE.shape
              subst hx
              exact ⟨_, rfl, hb, x1, x2, ys, rfl, hE.weak hX.size⟩
            | n + 11, ho => omega
          · intro a X hX hk hd
            have e0 : a.eval (.tmp 59) = .slice ua an uc := hd 0 _ 59 rfl rfl ⟨⟨0, .data⟩, by simp, rfl, rfl⟩ (by decide)
            obtain ⟨y1, y2, ys, e1, hES⟩ := hd 10 _ 69 rfl rfl ⟨⟨10, .data⟩, by simp, rfl, rfl⟩ (by decide)
            obtain ⟨ux, uy, W2, hrun, hE2, hg2⟩ := ed_app 48 (HE.out.later hX) hES.src (blw_trans HBr.out hX).size (by have := HAL.out; have := HDL.out; omega)
            rw [← HAN.out] at hrun hE2
            exact ⟨_, W2, uexec_append (.tmp 59) (.tmp 69) 48 rfl e0 e1 hrun, ux, uy, _, rfl, hE2, (HE.out.later hX).below (blw_trans HBr.out hX) hg2 (Nat.le_refl _)⟩
          · intro vs X hK e2
            simp only [RY.putAll, Act.put, List.setIfInBounds_toArray, List.set_cons_zero, List.set_cons_succ]
            rw [e2]
            generalize vs 59 = s59
            generalize vs 60 = s60
            generalize vs 61 = s61
            generalize vs 62 = s62
            generalize vs 63 = s63
            generalize vs 64 = s64
            generalize vs 65 = s65
            generalize vs 66 = s66
            generalize vs 67 = s67
            generalize vs 68 = s68
            generalize vs 69 = s69
            generalize vs 70 = s70 at hK ⊢
            obtain ⟨g', c', xs', rfl, hE2, hbn⟩ := hK
            have HG2 := uh hE2
            have HB2 := uh hbn
            clear hE2 hbn
            go_wp2
            go_roundw
            case rel => exact ⟨k2 + 1, xs', by omega, by go_num, by rw [HE1.out]; exact HG2.out, HB2.out⟩
            case measure => simp [intOf]; omega
    have hkL : k < a.length := by have := HNA.out; omega
    rcases bls_open (HA.out.later (blw_trans HBK.out HBr.out)) with ⟨e0, _⟩ | ⟨p, o, c, hv, hp, hml, hopen⟩
    · omega
    rw [← HNA.out] at hv
    injection hv with g1 _ g3
    subst g1; subst g3
    obtain ⟨xa, xc, hgx, hrx⟩ := hopen k hkL
    have HST := uh (goneTo_step (a := a) (b := b) hkL)
    have hgl := goneTo_len a b k
    have HSZ := uh (HSA.out k hkL)
    obtain ⟨x, hx⟩ : ∃ x, x = a.getD k Pl.blNo := ⟨_, rfl⟩
    rw [← hx] at hgx hrx HST HSZ
    obtain ⟨ac0, hac⟩ : ∃ z, z = goneTo a b k := ⟨_, rfl⟩
    rw [← hac] at HE HST hgl ⊢
    obtain ⟨an, han⟩ : ∃ z, z = ac0.length := ⟨_, rfl⟩
    have HAL : Hid (ac0.length ≤ 60) := by have := HNA.out; show _ ≤ _; omega
    rw [← han] at HE hgl ⊢
    have HAN := uh han
    have hk0 : (0 : Int) ≤ (k : Int) := by omega
    have hkn : (k : Int) < (na : Int) := by omega
    obtain ⟨w6, hw6⟩ : ∃ z, z = wr.alloc (.cells #[.string x.kind, .string x.name, .slice xa x.lines.length xc] 42) := ⟨_, rfl⟩
    have hb6 : Below wr.heap.size wr w6 := by rw [hw6]; exact blw_alloc (Below.refl _ _) _
    obtain ⟨z0, hz0⟩ : ∃ z, z = wr.heap.size := ⟨_, rfl⟩
    have HXB : Hid (LBox w6 z0 [.string x.kind, .string x.name, .slice xa x.lines.length xc]) := by show LBox _ _ _; rw [hw6]; exact LBox.new _ #[.string x.kind, .string x.name, .slice xa x.lines.length xc] _ _ hz0
    replace HBr := uh (blw_trans HBr.out hb6)
    replace HE := uh (HE.out.later hb6)
    obtain ⟨fb, hfb⟩ : ∃ z, z = (Pl.findB b x.kind x.name).isSome := ⟨_, rfl⟩
    obtain ⟨fi, hfi⟩ : ∃ z, z = (Pl.findB b x.kind x.name).getD 0 := ⟨_, rfl⟩
    have HNI : Hid (Pl.noIn b x = !fb) := by show _ = _; rw [hfb]; unfold Pl.noIn; cases Pl.findB b x.kind x.name <;> rfl
    have HLK : Hid (∀ X, Below w6.heap.size w6 X → (Instr.lookup 84 (.map (some mb)) (.agg #[.string x.kind, .string x.name]) true).run Try.prog X = .ok (.tuple #[.int .i64 (fi : Int), .bool fb]) X) := fun X hX => by
      rw [hfb, hfi]; exact hd_look (HMB.out.later (blw_trans HBr.out hX)) HSB.out HPB.out x.kind x.name HSZ.out.1 HSZ.out.2
    have HCH := uh (fun (X : World) => headOfI x.kind x.name (.slice xa x.lines.length xc) X)
    clear hx hac han hp hml hopen hgl hb6 hrx hfb hfi
    go_upto_region 7 with (refine wpList_load_mid rfl 42 _ rfl p (o + k * 3) rfl [.string x.kind, .string x.name, .slice xa x.lines.length xc] _ hgx Try.underlying42 rfl (by kernel_rfl) ?_)
    rw [← hw6, ← hz0]
    clear hw6 hz0 hgx
    have xa0 := HXB.out.at_
    have xl0 := HXB.out.lt
    go_wp2_with (refine wpList_load_mid rfl 42 _ rfl z0 0 rfl [.string x.kind, .string x.name, .slice xa x.lines.length xc] _ xa0 Try.underlying42 rfl (by kernel_rfl) ?_)
    refine (HCH.out w6).mono ?_
    rintro e w7 ⟨rfl, hb7⟩
    have hlk := HLK.out w7 hb7
    replace HBr := uh (blw_trans HBr.out hb7)
    replace HE := uh (HE.out.later hb7)
    replace HXB := uh (HXB.out.later hb7)
    clear hb7 xa0 xl0 HLK
    have xa0 := HXB.out.at_
    have xl0 := HXB.out.lt
    cases fb
    rotate_left
    · have HE9 : Hid (EdR w0 wk.heap.size w7 (.slice ua an uc) (goneTo a b (k + 1)) xs) := by show EdR _ _ _ _ _ _; rw [HST.out, HNI.out]; exact HE.out
      go_wp2
      go_roundw
      case rel => exact ⟨k + 1, xs, by omega, by go_num, HE9.out, HBr.out⟩
      case measure => simp [intOf]; omega
    have HE1 : Hid (goneTo a b (k + 1) = ac0 ++ [Pl.goneCh x]) := by show _ = _; rw [HST.out, HNI.out]; rfl
    go_wp2_with (refine wpList_load_mid rfl 42 _ rfl z0 0 rfl [.string x.kind, .string x.name, .slice xa x.lines.length xc] _ xa0 Try.underlying42 rfl (by kernel_rfl) ?_)
    refine (HCH.out w7).mono ?_
    rintro e w8 ⟨rfl, hb8⟩
    replace HBr := uh (blw_trans HBr.out hb8)
    replace HE := uh (HE.out.later hb8)
    have HU : Hid (EdV w0 w8 (Pl.goneCh x) (.iface 91 (.agg #[.string x.kind, .string x.name]))) := .gone _ _
    obtain ⟨wb, hwb⟩ : ∃ z, z = w8.alloc (.cells #[.iface 91 (.agg #[.string x.kind, .string x.name])] 51) := ⟨_, rfl⟩
    have hbb : Below w8.heap.size w8 wb := by rw [hwb]; exact blw_alloc (Below.refl _ _) _
    have HSRC : Hid (EdS w0 wb (.slice (some ⟨w8.heap.size, 0, none⟩) 1 1) [Pl.goneCh x] [.iface 91 (.agg #[.string x.kind, .string x.name])]) := by show EdS _ _ _ _ _; rw [hwb]; exact EdS.one HU.out 51
    obtain ⟨av, cv, W7, hrun, hE7, hg7⟩ := ed_app 48 (HE.out.later hbb) HSRC.out (blw_trans HBr.out hbb).size (by have := HAL.out; rw [List.length_singleton]; omega)
    have HE7 := uh hE7
    have HB7 := uh ((HE.out.later hbb).below (blw_trans HBr.out hbb) hg7 (Nat.le_refl _))
    rw [hwb, ← HAN.out, List.length_singleton] at hrun
    rw [List.length_singleton, ← HAN.out] at HE7
    clear hbb hwb hE7 hg7 hb8 xa0 xl0
    go_wp2_with (at_builtin; refine Go.Lib.wpList_append_run _ rfl _ _ 48 48 rfl _ _ rfl rfl _ W7 hrun ?_)
    clear hrun
    go_roundw
    case rel => exact ⟨k + 1, _, by omega, by go_num, by rw [HE1.out]; exact HE7.out, HB7.out⟩
    case measure => simp [intOf]; omega

end Go.Proofs.Ytojcopamegmeeaa
