/-
  The service that an object asks for: the program.
-/
import Derived.BigFrame
import Derived.Test.YtiiahpegdpbkgaaHVp
import Derived.Test.YtiiahpegdpbkgaaRegT
namespace Go.Proofs.Ytiiahpegdpbkgaa
open Go.RowKit Go.Deep


set_option maxHeartbeats 1000000 in
theorem numberI (kd nm tm : ByteArray) (l : List ByteArray) (en : Bool) (hv : Value) (ver : Int) (p b : Nat) (w : World) (k : Nat) (hk : k < 6) (h : LBox w b [.string kd, .string nm, .string tm, .slice (some ⟨p, 0, none⟩) 6 6, .bool en, hv, .int .i64 ver]) (hc : w.cell? ⟨p, k, none⟩ = some (.string (l.getD k ByteArray.empty))) (hs : (l.getD k ByteArray.empty).size ≤ maxLen) :
    Calls Try.prog 15 #[.int .i64 (k : Int), .pointer (some ⟨b, 0, none⟩)] w fun e w' => e = .returned (.int .i64 (svV l k)) ∧ Below w.heap.size w w' := by
  have HC := uh (decimal_any (l.getD k ByteArray.empty) w hs)
  have HE : Hid (decOut (l.getD k ByteArray.empty) = svV l k) := by show _ = _; rfl
  obtain ⟨n, hn⟩ : ∃ n, n = decOut (l.getD k ByteArray.empty) := ⟨_, rfl⟩
  obtain ⟨o, ho⟩ : ∃ o, o = Pl.decOk (l.getD k ByteArray.empty) := ⟨_, rfl⟩
  obtain ⟨x, hx⟩ : ∃ x, x = l.getD k ByteArray.empty := ⟨_, rfl⟩
  rw [← hn] at HE
  rw [← hn, ← ho, ← hx] at HC
  rw [← hx] at hc
  clear hn ho hx hs
  have x3 := h.get 3 _ rfl
  have xz := h.lt
  have hk0 : (0 : Int) ≤ (k : Int) := by omega
  have hk6 : (k : Int) < 6 := by omega
  go_enter Try.func15, Try.ntmps15
  go_wp2_with fail
  refine HC.out.mono ?_
  rintro e w' ⟨rfl, rfl⟩
  go_wp2
  go_ret
  exact ⟨Pl.ret_int HE.out, Below.refl _ _⟩
def VHi (b0 : Nat) (nm : ByteArray) (en : Bool) (l : List ByteArray) : Nat → Value → Prop
  | 0, u => u = .pointer (some ⟨b0, 1, none⟩)
  | 1, u => u = .string nm
  | 2, u => u = .pointer (some ⟨b0, 4, none⟩)
  | 3, u => u = .bool en
  | 4, u => u = .func (.func 15) #[] #[.pointer (some ⟨b0, 0, none⟩)]
  | 5, u => u = .int .i64 (svV l 0)
  | 6, u => u = .func (.func 15) #[] #[.pointer (some ⟨b0, 0, none⟩)]
  | 7, u => u = .int .i64 (svV l 2)
  | 8, u => u = .func (.func 15) #[] #[.pointer (some ⟨b0, 0, none⟩)]
  | 9, u => u = .int .i64 (svV l 3)
  | 10, u => u = .func (.func 15) #[] #[.pointer (some ⟨b0, 0, none⟩)]
  | 11, u => u = .int .i64 (svV l 4)
  | 12, u => u = .agg #[.string nm, .int .i64 0, .bool en, .int .i64 (svV l 0), .int .i64 0, .int .i64 (svV l 2), .int .i64 (svV l 3), .int .i64 0, .int .i64 (svV l 4), .int .i64 0, .int .i64 0, .int .i64 0, .int .i64 0]
  | _, _ => True

/-- While three fields are stored, in whatever order. -/
structure T8 (W : World) (q : Nat) (dl : List Value) (nm : ByteArray) (en : Bool) (v0 v1 v2 v3 v4 m ol : Int) (up : Nat → Bool) (X : World) : Prop where
  bel : Below W.heap.size W X
  old : LBox X (W.heap.size + 1) dl
  res : WBox X (W.heap.size + 2) 29 [.string { data := #[] }, .int .i64 0, .bool false, .int .i64 0, .int .i64 0, .int .i64 0, .int .i64 0, .int .i64 0, .int .i64 0, .int .i64 0, .int .i64 0, .int .i64 0, .int .i64 0]
  box : WBox X q 29 [.string nm, .int .i64 0, .bool en, .int .i64 v0, if up 12 then .int .i64 m else .int .i64 0, .int .i64 v2, .int .i64 v3, .int .i64 0, .int .i64 v4, .int .i64 0, if up 8 then .int .i64 v1 else .int .i64 0, if up 10 then .int .i64 ol else .int .i64 0, .int .i64 0]
theorem T8.pure {W : World} {q : Nat} {dl : List Value} {nm : ByteArray} {en : Bool} {v0 v1 v2 v3 v4 m ol : Int} {up : Nat → Bool} {X : World} (h : T8 W q dl nm en v0 v1 v2 v3 v4 m ol up X) (i : Nat) (n8 : i ≠ 8) (n10 : i ≠ 10) (n12 : i ≠ 12) : T8 W q dl nm en v0 v1 v2 v3 v4 m ol (fun j => (j == i) || up j) X := by
  have e8 : ((8 == i) || up 8) = up 8 := by rw [show (8 == i) = false by simpa using fun e => n8 e.symm]; rfl
  have e10 : ((10 == i) || up 10) = up 10 := by rw [show (10 == i) = false by simpa using fun e => n10 e.symm]; rfl
  have e12 : ((12 == i) || up 12) = up 12 := by rw [show (12 == i) = false by simpa using fun e => n12 e.symm]; rfl
  refine ⟨h.bel, h.old, h.res, ?_⟩
  simp only [e8, e10, e12]
  exact h.box
theorem T8.store {W : World} {q : Nat} {dl : List Value} {nm : ByteArray} {en : Bool} {v0 v1 v2 v3 v4 m ol : Int} {up : Nat → Bool} {X : World} (h : T8 W q dl nm en v0 v1 v2 v3 v4 m ol up X) (hq : W.heap.size + 3 ≤ q) (i j : Nat) (v : Value) (hi : (i = 8 ∧ j = 10 ∧ v = .int .i64 v1) ∨ (i = 10 ∧ j = 11 ∧ v = .int .i64 ol) ∨ (i = 12 ∧ j = 4 ∧ v = .int .i64 m)) : T8 W q dl nm en v0 v1 v2 v3 v4 m ol (fun j => (j == i) || up j) (X.setCell ⟨q, j, none⟩ v) := by
  refine ⟨h.bel.setCell (p := ⟨q, j, none⟩) (by show W.heap.size ≤ q; omega) _, h.old.other_ (by omega) _ _, h.res.other (by omega) _ _, ?_⟩
  rcases hi with ⟨rfl, rfl, rfl⟩ | ⟨rfl, rfl, rfl⟩ | ⟨rfl, rfl, rfl⟩
  · simpa using h.box.set 10 (.int .i64 v1) (by simp)
  · simpa using h.box.set 11 (.int .i64 ol) (by simp)
  · simpa using h.box.set 4 (.int .i64 m) (by simp)
def V8 (b1 q : Nat) (v1 ow ol m : Int) : Nat → Value → Prop
  | 0, u => u = .int .i64 v1
  | 1, u => u = .pointer (some ⟨b1, 11, none⟩)
  | 2, u => u = .int .i64 ol
  | 3, u => u = .pointer (some ⟨b1, 4, none⟩)
  | 4, u => u = .int .i64 ow
  | 5, u => u = .int .i64 v1
  | 6, u => u = .int .i64 m
  | 7, u => u = .pointer (some ⟨q, 10, none⟩)
  | 9, u => u = .pointer (some ⟨q, 11, none⟩)
  | 11, u => u = .pointer (some ⟨q, 4, none⟩)
  | _, _ => True

set_option maxRecDepth 8000 in
set_option maxHeartbeats 16000000 in
theorem hallServiceI (kd nm tm : ByteArray) (l : List ByteArray) (en : Bool) (hv : Value) (ver : Int) (dl : List Value) (ow ol : Int) (p : Nat) (W : World) (hl : dl.length = 13) (h4 : dl[4]? = some (.int .i64 ow)) (h11 : dl[11]? = some (.int .i64 ol)) (hp : p < W.heap.size) (hc : ∀ i, i < l.length → W.cell? ⟨p, i, none⟩ = some (.string (l.getD i ByteArray.empty))) (hs : ∀ i, i < l.length → (l.getD i ByteArray.empty).size ≤ maxLen) :
    Calls Try.prog 9 #[.agg #[.string kd, .string nm, .string tm, .slice (some ⟨p, 0, none⟩) l.length l.length, .bool en, hv, .int .i64 ver], .agg dl.toArray] W (Ans shStewService (svD nm en l ow ol) W) := by
  have HC : Hid (∀ i, i < l.length → W.cell? ⟨p, i, none⟩ = some (.string (l.getD i ByteArray.empty))) := hc
  have HS : Hid (∀ i, i < l.length → (l.getD i ByteArray.empty).size ≤ maxLen) := hs
  have HP := uh hp
  have H4 := uh h4
  have H11 := uh h11
  have HL := uh hl
  clear hc hs hp h4 h11 hl
  obtain ⟨wa, hwa⟩ : ∃ wa, wa = ((W.alloc (.cells #[.string kd, .string nm, .string tm, .slice (some ⟨p, 0, none⟩) l.length l.length, .bool en, hv, .int .i64 ver] 31)).alloc (.cells dl.toArray 29)).alloc (.cells #[.string { data := #[] }, .int .i64 0, .bool false, .int .i64 0, .int .i64 0, .int .i64 0, .int .i64 0, .int .i64 0, .int .i64 0, .int .i64 0, .int .i64 0, .int .i64 0, .int .i64 0] 29) := ⟨_, rfl⟩
  have HB : Hid (Below W.heap.size W wa) := by show Below _ _ _; rw [hwa]; exact blw_alloc (blw_alloc (blw_alloc (Below.refl _ _) _) _) _
  have HX : Hid (LBox wa W.heap.size [.string kd, .string nm, .string tm, .slice (some ⟨p, 0, none⟩) l.length l.length, .bool en, hv, .int .i64 ver]) := by show LBox _ _ _; rw [hwa]; exact ((LBox.new W #[.string kd, .string nm, .string tm, .slice (some ⟨p, 0, none⟩) l.length l.length, .bool en, hv, .int .i64 ver] _ _ rfl).past _).past _
  have HY : Hid (LBox wa (W.heap.size + 1) dl) := by show LBox _ _ _; rw [hwa]; exact (LBox.new (W.alloc (.cells #[.string kd, .string nm, .string tm, .slice (some ⟨p, 0, none⟩) l.length l.length, .bool en, hv, .int .i64 ver] 31)) dl.toArray _ _ (by simp)).past _
  have HO : Hid (WBox wa (W.heap.size + 2) 29 [.string { data := #[] }, .int .i64 0, .bool false, .int .i64 0, .int .i64 0, .int .i64 0, .int .i64 0, .int .i64 0, .int .i64 0, .int .i64 0, .int .i64 0, .int .i64 0, .int .i64 0]) := by show WBox _ _ _ _; rw [hwa]; exact WBox.new _ [.string { data := #[] }, .int .i64 0, .bool false, .int .i64 0, .int .i64 0, .int .i64 0, .int .i64 0, .int .i64 0, .int .i64 0, .int .i64 0, .int .i64 0, .int .i64 0, .int .i64 0] _ _ (by simp)
  go_enter Try.func9, Try.ntmps9
  go_upto_region 1 with fail
  rw [← hwa]
  clear hwa
  have xz := HX.out.lt
  have x3 := HX.out.get 3 _ rfl
  by_cases h6 : l.length = 6
  rotate_left
  · have HR : Hid (svD nm en l ow ol = [.s ByteArray.empty, .i 0, .b false, .i 0, .i 0, .i 0, .i 0, .i 0, .i 0, .i 0, .i 0, .i 0, .i 0]) := by show _ = _; unfold svD; rw [if_neg h6]
    have h7 : ((l.length : Int) == 6) = false := by simpa using fun e : (l.length : Int) = 6 => h6 (by omega)
    have h8 : ((l.length : Int) != 6) = true := by rw [bne, h7]; rfl
    have hol := HO.out.own.lt
    have hth : wa.there (W.heap.size + 2) 0 (#[.string ByteArray.empty, .int .i64 0, .bool false, .int .i64 0, .int .i64 0, .int .i64 0, .int .i64 0, .int .i64 0, .int .i64 0, .int .i64 0, .int .i64 0, .int .i64 0, .int .i64 0] : Array Value).size := uthere HO.out.own _ _ (by simp)
    obtain ⟨we, hwe⟩ : ∃ we, we = wa.setCells (W.heap.size + 2) 0 [.string ByteArray.empty, .int .i64 0, .bool false, .int .i64 0, .int .i64 0, .int .i64 0, .int .i64 0, .int .i64 0, .int .i64 0, .int .i64 0, .int .i64 0, .int .i64 0, .int .i64 0] := ⟨_, rfl⟩
    have hrt : we.rangeAt (W.heap.size + 2) 0 [.string ByteArray.empty, .int .i64 0, .bool false, .int .i64 0, .int .i64 0, .int .i64 0, .int .i64 0, .int .i64 0, .int .i64 0, .int .i64 0, .int .i64 0, .int .i64 0, .int .i64 0] := by rw [hwe]; exact World.rangeAt_setCells_same _ _ _ _ hth
    have HBB : Hid (Below W.heap.size W we) := by show Below _ _ _; rw [hwe]; exact blw_scs (by omega) _ _ _ HB.out
    go_wp2_with (refine wpList_store_mid rfl 29 _ _ rfl (W.heap.size + 2) 0 #[.string ByteArray.empty, .int .i64 0, .bool false, .int .i64 0, .int .i64 0, .int .i64 0, .int .i64 0, .int .i64 0, .int .i64 0, .int .i64 0, .int .i64 0, .int .i64 0, .int .i64 0] rfl rfl hth (by kernel_rfl) (by simp [Value.oneCell']) ?_)
    first | rw [← hwe] | (simp only [List.toList_toArray]; rw [← hwe])
    try simp only [Act.put]
    refine bodyPost_ret (v := .agg #[.string ByteArray.empty, .int .i64 0, .bool false, .int .i64 0, .int .i64 0, .int .i64 0, .int .i64 0, .int .i64 0, .int .i64 0, .int .i64 0, .int .i64 0, .int .i64 0, .int .i64 0]) (by simp [results, Try.results9, asAddr, run_loadVar_mid (P := Try.prog) _ _ _ 29 [.string ByteArray.empty, .int .i64 0, .bool false, .int .i64 0, .int .i64 0, .int .i64 0, .int .i64 0, .int .i64 0, .int .i64 0, .int .i64 0, .int .i64 0, .int .i64 0, .int .i64 0] _ hrt Try.underlying29 rfl (by kernel_rfl)]) rfl ?_
    rw [HR.out]
    exact ⟨[.string ByteArray.empty, .int .i64 0, .bool false, .int .i64 0, .int .i64 0, .int .i64 0, .int .i64 0, .int .i64 0, .int .i64 0, .int .i64 0, .int .i64 0, .int .i64 0, .int .i64 0], [], rfl, repSv _ _ _ _ _ _ _ _ _ _ _ _ _, List.nodup_nil, by simp, HBB.out⟩
  have HR : Hid (svD nm en l ow ol = if svV l 4 = 0 then [.s nm, .i 0, .b en, .i (svV l 0), .i (svV l 1), .i (svV l 2), .i (svV l 3), .i 0, .i (svV l 4), .i 0, .i 0, .i 0, .i 0] else [.s nm, .i 0, .b en, .i (svV l 0), .i (if ow < svV l 1 then ow else svV l 1), .i (svV l 2), .i (svV l 3), .i 0, .i (svV l 4), .i 0, .i (svV l 1), .i ol, .i 0]) := by show _ = _; unfold svD; rw [if_pos h6]
  have HN : Hid (∀ i, i < 6 → Below W.heap.size W wa → True) := fun _ _ _ => trivial
  clear HN
  have HC6 : Hid (∀ i, i < 6 → W.cell? ⟨p, i, none⟩ = some (.string (l.getD i ByteArray.empty))) := fun i hi => HC.out i (by omega)
  have HS6 : Hid (∀ i, i < 6 → (l.getD i ByteArray.empty).size ≤ maxLen) := fun i hi => HS.out i (by omega)
  rw [h6] at x3 HX
  have h7 : ((6 : Int) == 6) = true := by rfl
  clear HC HS
  have hF : (∀ k : Nat, k < 6 → ∀ X : World, Below wa.heap.size wa X → Calls Try.prog 15 #[.int .i64 (k : Int), .pointer (some ⟨W.heap.size, 0, none⟩)] X fun e w' => e = .returned (.int .i64 (svV l k)) ∧ Below X.heap.size X w') := fun k hk X hX => numberI kd nm tm l en hv ver p W.heap.size X k hk (HX.out.later hX) (((blw_trans HB.out hX).cell (p := ⟨p, k, none⟩) HP.out).trans (HC6.out k hk)) (HS6.out k hk)
  have HF := uh hF
  clear hF
  clear h6
  go_upto_region 4 with fail
  clear x3 xz
  refine RY.region_let wa (Below.refl _ _) (VHi W.heap.size nm en l) 13 12 14 6 26 29 13 [.string nm, .int .i64 0, .bool en, .int .i64 (svV l 0), .int .i64 0, .int .i64 (svV l 2), .int .i64 (svV l 3), .int .i64 0, .int .i64 (svV l 4), .int .i64 0, .int .i64 0, .int .i64 0, .int .i64 0] [.string { data := #[] }, .int .i64 0, .bool false, .int .i64 0, .int .i64 0, .int .i64 0, .int .i64 0, .int .i64 0, .int .i64 0, .int .i64 0, .int .i64 0, .int .i64 0, .int .i64 0] (by kernel_rfl) (by kernel_rfl) (by kernel_rfl) (by kernel_rfl) _ _ _ rfl rfl rfl rfl rfl rfl rfl (by decide) (by decide) (by decide) (by kernel_rfl) (by kernel_rfl) rfl ?_ rfl ?_ (by kernel_rfl) (fun u h => h) ?_ ?_
  · intro a Wx
    kernel_rfl
  · intro x hx
    simp only [List.mem_cons, List.not_mem_nil, or_false] at hx
    rcases hx with rfl | rfl | rfl | rfl | rfl | rfl | rfl | rfl | rfl | rfl | rfl | rfl | rfl <;> rfl
  · intro i o ho nA nS a Wx hW hk hd
    match i, ho with
    | 0, ho =>
      injection ho with ho; subst ho
      have e2 : a.tmps[2]?.getD undef = .pointer (some ⟨W.heap.size, 0, none⟩) := (RY.ev_tmp a 2).trans ((hk 2 (by kernel_rfl)).trans rfl)
      exact Or.inl ⟨.pointer (some ⟨W.heap.size, 1, none⟩), Wx, by simp [execOp, go_sem, e2], Below.refl _ _, rfl⟩
    | 1, ho =>
      injection ho with ho; subst ho
      have e14 : a.tmps[14]?.getD undef = .pointer (some ⟨W.heap.size, 1, none⟩) := (RY.ev_tmp a 14).trans (hd 0 _ 14 rfl rfl (by decide) ⟨⟨0, .data⟩, by simp, rfl, rfl⟩)
      have yc := (HX.out.later hW).get 1 _ rfl
      exact Or.inl ⟨.string nm, Wx, by simp [execOp, go_sem, e14, yc], Below.refl _ _, rfl⟩
    | 2, ho =>
      injection ho with ho; subst ho
      have e2 : a.tmps[2]?.getD undef = .pointer (some ⟨W.heap.size, 0, none⟩) := (RY.ev_tmp a 2).trans ((hk 2 (by kernel_rfl)).trans rfl)
      exact Or.inl ⟨.pointer (some ⟨W.heap.size, 4, none⟩), Wx, by simp [execOp, go_sem, e2], Below.refl _ _, rfl⟩
    | 3, ho =>
      injection ho with ho; subst ho
      have e16 : a.tmps[16]?.getD undef = .pointer (some ⟨W.heap.size, 4, none⟩) := (RY.ev_tmp a 16).trans (hd 2 _ 16 rfl rfl (by decide) ⟨⟨2, .data⟩, by simp, rfl, rfl⟩)
      have yc := (HX.out.later hW).get 4 _ rfl
      exact Or.inl ⟨.bool en, Wx, by simp [execOp, go_sem, e16, yc], Below.refl _ _, rfl⟩
    | 4, ho =>
      injection ho with ho; subst ho
      have e5 : a.tmps[5]?.getD undef = .func (.func 15) #[] #[.pointer (some ⟨W.heap.size, 0, none⟩)] := (RY.ev_tmp a 5).trans ((hk 5 (by kernel_rfl)).trans rfl)
      exact Or.inl ⟨.func (.func 15) #[] #[.pointer (some ⟨W.heap.size, 0, none⟩)], Wx, by simp [execOp, go_sem, e5], Below.refl _ _, rfl⟩
    | 5, ho =>
      injection ho with ho; subst ho
      have e18 : a.tmps[18]?.getD undef = .func (.func 15) #[] #[.pointer (some ⟨W.heap.size, 0, none⟩)] := (RY.ev_tmp a 18).trans (hd 4 _ 18 rfl rfl (by decide) ⟨⟨4, .data⟩, by simp, rfl, rfl⟩)
      refine Or.inr ⟨15, #[.int .i64 0, .pointer (some ⟨W.heap.size, 0, none⟩)], by simp [go_sem, e18], (HF.out 0 (by decide) Wx hW).mono ?_⟩
      rintro e W' ⟨rfl, hb⟩
      exact ⟨_, rfl, hb, rfl⟩
    | 6, ho =>
      injection ho with ho; subst ho
      have e5 : a.tmps[5]?.getD undef = .func (.func 15) #[] #[.pointer (some ⟨W.heap.size, 0, none⟩)] := (RY.ev_tmp a 5).trans ((hk 5 (by kernel_rfl)).trans rfl)
      exact Or.inl ⟨.func (.func 15) #[] #[.pointer (some ⟨W.heap.size, 0, none⟩)], Wx, by simp [execOp, go_sem, e5], Below.refl _ _, rfl⟩
    | 7, ho =>
      injection ho with ho; subst ho
      have e20 : a.tmps[20]?.getD undef = .func (.func 15) #[] #[.pointer (some ⟨W.heap.size, 0, none⟩)] := (RY.ev_tmp a 20).trans (hd 6 _ 20 rfl rfl (by decide) ⟨⟨6, .data⟩, by simp, rfl, rfl⟩)
      refine Or.inr ⟨15, #[.int .i64 2, .pointer (some ⟨W.heap.size, 0, none⟩)], by simp [go_sem, e20], (HF.out 2 (by decide) Wx hW).mono ?_⟩
      rintro e W' ⟨rfl, hb⟩
      exact ⟨_, rfl, hb, rfl⟩
    | 8, ho =>
      injection ho with ho; subst ho
      have e5 : a.tmps[5]?.getD undef = .func (.func 15) #[] #[.pointer (some ⟨W.heap.size, 0, none⟩)] := (RY.ev_tmp a 5).trans ((hk 5 (by kernel_rfl)).trans rfl)
      exact Or.inl ⟨.func (.func 15) #[] #[.pointer (some ⟨W.heap.size, 0, none⟩)], Wx, by simp [execOp, go_sem, e5], Below.refl _ _, rfl⟩
    | 9, ho =>
      injection ho with ho; subst ho
      have e22 : a.tmps[22]?.getD undef = .func (.func 15) #[] #[.pointer (some ⟨W.heap.size, 0, none⟩)] := (RY.ev_tmp a 22).trans (hd 8 _ 22 rfl rfl (by decide) ⟨⟨8, .data⟩, by simp, rfl, rfl⟩)
      refine Or.inr ⟨15, #[.int .i64 3, .pointer (some ⟨W.heap.size, 0, none⟩)], by simp [go_sem, e22], (HF.out 3 (by decide) Wx hW).mono ?_⟩
      rintro e W' ⟨rfl, hb⟩
      exact ⟨_, rfl, hb, rfl⟩
    | 10, ho =>
      injection ho with ho; subst ho
      have e5 : a.tmps[5]?.getD undef = .func (.func 15) #[] #[.pointer (some ⟨W.heap.size, 0, none⟩)] := (RY.ev_tmp a 5).trans ((hk 5 (by kernel_rfl)).trans rfl)
      exact Or.inl ⟨.func (.func 15) #[] #[.pointer (some ⟨W.heap.size, 0, none⟩)], Wx, by simp [execOp, go_sem, e5], Below.refl _ _, rfl⟩
    | 11, ho =>
      injection ho with ho; subst ho
      have e24 : a.tmps[24]?.getD undef = .func (.func 15) #[] #[.pointer (some ⟨W.heap.size, 0, none⟩)] := (RY.ev_tmp a 24).trans (hd 10 _ 24 rfl rfl (by decide) ⟨⟨10, .data⟩, by simp, rfl, rfl⟩)
      refine Or.inr ⟨15, #[.int .i64 4, .pointer (some ⟨W.heap.size, 0, none⟩)], by simp [go_sem, e24], (HF.out 4 (by decide) Wx hW).mono ?_⟩
      rintro e W' ⟨rfl, hb⟩
      exact ⟨_, rfl, hb, rfl⟩
    | 12, ho =>
      injection ho with ho; subst ho
      have e15 : a.tmps[15]?.getD undef = .string nm := (RY.ev_tmp a 15).trans (hd 1 _ 15 rfl rfl (by decide) ⟨⟨1, .data⟩, by simp, rfl, rfl⟩)
      have e17 : a.tmps[17]?.getD undef = .bool en := (RY.ev_tmp a 17).trans (hd 3 _ 17 rfl rfl (by decide) ⟨⟨3, .data⟩, by simp, rfl, rfl⟩)
      have e19 : a.tmps[19]?.getD undef = .int .i64 (svV l 0) := (RY.ev_tmp a 19).trans (hd 5 _ 19 rfl rfl (by decide) ⟨⟨5, .data⟩, by simp, rfl, rfl⟩)
      have e21 : a.tmps[21]?.getD undef = .int .i64 (svV l 2) := (RY.ev_tmp a 21).trans (hd 7 _ 21 rfl rfl (by decide) ⟨⟨7, .data⟩, by simp, rfl, rfl⟩)
      have e23 : a.tmps[23]?.getD undef = .int .i64 (svV l 3) := (RY.ev_tmp a 23).trans (hd 9 _ 23 rfl rfl (by decide) ⟨⟨9, .data⟩, by simp, rfl, rfl⟩)
      have e25 : a.tmps[25]?.getD undef = .int .i64 (svV l 4) := (RY.ev_tmp a 25).trans (hd 11 _ 25 rfl rfl (by decide) ⟨⟨11, .data⟩, by simp, rfl, rfl⟩)
      exact Or.inl ⟨.agg #[.string nm, .int .i64 0, .bool en, .int .i64 (svV l 0), .int .i64 0, .int .i64 (svV l 2), .int .i64 (svV l 3), .int .i64 0, .int .i64 (svV l 4), .int .i64 0, .int .i64 0, .int .i64 0, .int .i64 0], Wx, by simp [execOp, go_sem, e15, e17, e19, e21, e23, e25], Below.refl _ _, rfl⟩
    | 13, ho => exact absurd rfl nA
    | 14, ho => exact absurd rfl nS
    | n + 15, ho => simp at ho
  intro w2 vs q hW hvs hq hqv hqo hqr
  simp only [RY.putAll, Act.put, List.setIfInBounds_toArray, List.set_cons_zero, List.set_cons_succ]
  rw [hq]
  generalize vs 14 = g14
  generalize vs 15 = g15
  generalize vs 16 = g16
  generalize vs 17 = g17
  generalize vs 18 = g18
  generalize vs 19 = g19
  generalize vs 20 = g20
  generalize vs 21 = g21
  generalize vs 22 = g22
  generalize vs 23 = g23
  generalize vs 24 = g24
  generalize vs 25 = g25
  generalize vs 26 = g26
  clear hvs hq
  have HZ : Hid (WBox w2 q 29 [.string nm, .int .i64 0, .bool en, .int .i64 (svV l 0), .int .i64 0, .int .i64 (svV l 2), .int .i64 (svV l 3), .int .i64 0, .int .i64 (svV l 4), .int .i64 0, .int .i64 0, .int .i64 0, .int .i64 0]) := ⟨hqo, hqr⟩
  have HQ : Hid (W.heap.size + 3 ≤ q) := by show _ ≤ _; have := HO.out.own.lt; omega
  have HC1 := uh (HF.out 1 (by decide) w2 hW)
  clear hqo hqr hqv
  replace HB := uh (blw_trans HB.out hW)
  replace HY := uh (HY.out.later hW)
  replace HO := uh (HO.out.later hW)
  clear hW HX HC6 HS6 HP HF
  obtain ⟨v0, hv0⟩ : ∃ v, v = svV l 0 := ⟨_, rfl⟩
  obtain ⟨v1, hv1⟩ : ∃ v, v = svV l 1 := ⟨_, rfl⟩
  obtain ⟨v2, hv2⟩ : ∃ v, v = svV l 2 := ⟨_, rfl⟩
  obtain ⟨v3, hv3⟩ : ∃ v, v = svV l 3 := ⟨_, rfl⟩
  obtain ⟨v4, hv4⟩ : ∃ v, v = svV l 4 := ⟨_, rfl⟩
  rw [← hv0, ← hv2, ← hv3, ← hv4] at HZ
  rw [← hv0, ← hv1, ← hv2, ← hv3, ← hv4] at HR
  rw [← hv1] at HC1
  clear hv0 hv1 hv2 hv3 hv4
  go_wp2_with fail
  refine HC1.out.mono ?_
  rintro e w3 ⟨rfl, hb⟩
  replace HZ := uh (HZ.out.later hb)
  replace HB := uh (blw_trans HB.out hb)
  replace HY := uh (HY.out.later hb)
  replace HO := uh (HO.out.later hb)
  clear hb HC1
  have HNE : Hid (W.heap.size + 1 ≠ q ∧ W.heap.size + 2 ≠ q) := by show _ ∧ _; have := HQ.out; omega
  have z8 := HZ.out.get 8 _ rfl
  have zl := HZ.out.own.lt
  cases hv : (v4 == 0)
  rotate_left
  · rw [if_pos (by simpa using hv)] at HR
    have z4 := HZ.out.get 4 _ rfl
    have zf := HZ.out.own.frozen
    obtain ⟨x1, hx1⟩ : ∃ x, x = w3.setCell ⟨q, 4, none⟩ (.int .i64 v1) := ⟨_, rfl⟩
    have HZ1 : Hid (WBox x1 q 29 ([.string nm, .int .i64 0, .bool en, .int .i64 v0, .int .i64 v1, .int .i64 v2, .int .i64 v3, .int .i64 0, .int .i64 v4, .int .i64 0, .int .i64 0, .int .i64 0, .int .i64 0])) := by show WBox _ _ _ _; rw [hx1]; exact HZ.out.set 4 _ (by simp)
    have HO1 : Hid (WBox x1 (W.heap.size + 2) 29 [.string { data := #[] }, .int .i64 0, .bool false, .int .i64 0, .int .i64 0, .int .i64 0, .int .i64 0, .int .i64 0, .int .i64 0, .int .i64 0, .int .i64 0, .int .i64 0, .int .i64 0]) := by show WBox _ _ _ _; rw [hx1]; exact HO.out.other HNE.out.2 _ _
    have HB1 : Hid (Below W.heap.size W x1) := by show Below _ _ _; rw [hx1]; exact HB.out.setCell (p := ⟨q, 4, none⟩) (by show W.heap.size ≤ q; have := HQ.out; omega) _
    go_upto_region 9 with fail
    rw [← hx1]
    clear hx1 z4 zf z8 zl hv HO HB HZ
    have HO := HO1
    have hol := HO.out.own.lt
    have hxl := HZ1.out.own.lt
    have hxa := HZ1.out.at_
    have hth : x1.there (W.heap.size + 2) 0 (#[.string nm, .int .i64 0, .bool en, .int .i64 v0, .int .i64 v1, .int .i64 v2, .int .i64 v3, .int .i64 0, .int .i64 v4, .int .i64 0, .int .i64 0, .int .i64 0, .int .i64 0] : Array Value).size := uthere HO.out.own _ _ (by simp)
    obtain ⟨we, hwe⟩ : ∃ we, we = x1.setCells (W.heap.size + 2) 0 [.string nm, .int .i64 0, .bool en, .int .i64 v0, .int .i64 v1, .int .i64 v2, .int .i64 v3, .int .i64 0, .int .i64 v4, .int .i64 0, .int .i64 0, .int .i64 0, .int .i64 0] := ⟨_, rfl⟩
    have hrt : we.rangeAt (W.heap.size + 2) 0 [.string nm, .int .i64 0, .bool en, .int .i64 v0, .int .i64 v1, .int .i64 v2, .int .i64 v3, .int .i64 0, .int .i64 v4, .int .i64 0, .int .i64 0, .int .i64 0, .int .i64 0] := by rw [hwe]; exact World.rangeAt_setCells_same _ _ _ _ hth
    have HBB : Hid (Below W.heap.size W we) := by show Below _ _ _; rw [hwe]; exact blw_scs (by omega) _ _ _ HB1.out
    go_wp2_with (first | (refine wpList_load_mid rfl 29 _ rfl q 0 rfl [.string nm, .int .i64 0, .bool en, .int .i64 v0, .int .i64 v1, .int .i64 v2, .int .i64 v3, .int .i64 0, .int .i64 v4, .int .i64 0, .int .i64 0, .int .i64 0, .int .i64 0] _ hxa Try.underlying29 rfl (by kernel_rfl) ?_) | (refine wpList_store_mid rfl 29 _ _ rfl (W.heap.size + 2) 0 #[.string nm, .int .i64 0, .bool en, .int .i64 v0, .int .i64 v1, .int .i64 v2, .int .i64 v3, .int .i64 0, .int .i64 v4, .int .i64 0, .int .i64 0, .int .i64 0, .int .i64 0] rfl rfl hth (by kernel_rfl) (by simp [Value.oneCell']) ?_))
    first | rw [← hwe] | (simp only [List.toList_toArray]; rw [← hwe])
    try simp only [Act.put]
    refine bodyPost_ret (v := .agg #[.string nm, .int .i64 0, .bool en, .int .i64 v0, .int .i64 v1, .int .i64 v2, .int .i64 v3, .int .i64 0, .int .i64 v4, .int .i64 0, .int .i64 0, .int .i64 0, .int .i64 0]) (by simp [results, Try.results9, asAddr, run_loadVar_mid (P := Try.prog) _ _ _ 29 [.string nm, .int .i64 0, .bool en, .int .i64 v0, .int .i64 v1, .int .i64 v2, .int .i64 v3, .int .i64 0, .int .i64 v4, .int .i64 0, .int .i64 0, .int .i64 0, .int .i64 0] _ hrt Try.underlying29 rfl (by kernel_rfl)]) rfl ?_
    rw [HR.out]
    exact ⟨[.string nm, .int .i64 0, .bool en, .int .i64 v0, .int .i64 v1, .int .i64 v2, .int .i64 v3, .int .i64 0, .int .i64 v4, .int .i64 0, .int .i64 0, .int .i64 0, .int .i64 0], [], rfl, repSv _ _ _ _ _ _ _ _ _ _ _ _ _, List.nodup_nil, by simp, HBB.out⟩
  rw [if_neg (by simpa using hv)] at HR
  obtain ⟨m, hm⟩ : ∃ m : Int, m = if ow < v1 then ow else v1 := ⟨_, rfl⟩
  rw [← hm] at HR
  go_upto_region 8 with fail
  clear z8 zl hv
  refine RY.region_T (V8 (W.heap.size + 1) q v1 ow ol m) (fun up _ X => T8 W q dl nm en v0 v1 v2 v3 v4 m ol up X) (by kernel_rfl) (by kernel_rfl) (by kernel_rfl) (by kernel_rfl) ?_ ?_ ?_
  · intro _
    exact ⟨Below.drew HB.out, HY.out.later (Below.drew (Below.refl _ _)), HO.out.later (Below.drew (Below.refl _ _)), HZ.out.later (Below.drew (Below.refl _ _))⟩
  · intro up vals i o ho hu hcl a X hk hd hT
    have y4 := hT.old.get 4 _ H4.out
    have y11 := hT.old.get 11 _ H11.out
    have fz := hT.box.own.frozen
    match i, ho with
    | 0, ho =>
      injection ho with ho; subst ho
      have e7 : a.tmps[7]?.getD undef = .int .i64 v1 := (RY.ev_tmp a 7).trans ((hk 7 (by kernel_rfl)).trans rfl)
      exact Or.inl ⟨.int .i64 v1, X, by simp [execOp, go_sem, e7], rfl, rfl, hT.pure 0 (by decide) (by decide) (by decide)⟩
    | 1, ho =>
      injection ho with ho; subst ho
      have e3 : a.tmps[3]?.getD undef = .pointer (some ⟨W.heap.size + 1, 0, none⟩) := (RY.ev_tmp a 3).trans ((hk 3 (by kernel_rfl)).trans rfl)
      exact Or.inl ⟨.pointer (some ⟨W.heap.size + 1, 11, none⟩), X, by simp [execOp, go_sem, e3], rfl, rfl, hT.pure 1 (by decide) (by decide) (by decide)⟩
    | 2, ho =>
      injection ho with ho; subst ho
      obtain ⟨_, d35, q35⟩ := hd 1 _ 35 rfl rfl ⟨⟨1, .data⟩, by simp, rfl, rfl⟩
      have e35 : a.tmps[35]?.getD undef = .pointer (some ⟨W.heap.size + 1, 11, none⟩) := (RY.ev_tmp a 35).trans (d35.trans q35)
      exact Or.inl ⟨.int .i64 ol, X, by simp [execOp, go_sem, e35, y11], rfl, rfl, hT.pure 2 (by decide) (by decide) (by decide)⟩
    | 3, ho =>
      injection ho with ho; subst ho
      have e3 : a.tmps[3]?.getD undef = .pointer (some ⟨W.heap.size + 1, 0, none⟩) := (RY.ev_tmp a 3).trans ((hk 3 (by kernel_rfl)).trans rfl)
      exact Or.inl ⟨.pointer (some ⟨W.heap.size + 1, 4, none⟩), X, by simp [execOp, go_sem, e3], rfl, rfl, hT.pure 3 (by decide) (by decide) (by decide)⟩
    | 4, ho =>
      injection ho with ho; subst ho
      obtain ⟨_, d37, q37⟩ := hd 3 _ 37 rfl rfl ⟨⟨3, .data⟩, by simp, rfl, rfl⟩
      have e37 : a.tmps[37]?.getD undef = .pointer (some ⟨W.heap.size + 1, 4, none⟩) := (RY.ev_tmp a 37).trans (d37.trans q37)
      exact Or.inl ⟨.int .i64 ow, X, by simp [execOp, go_sem, e37, y4], rfl, rfl, hT.pure 4 (by decide) (by decide) (by decide)⟩
    | 5, ho =>
      injection ho with ho; subst ho
      have e7 : a.tmps[7]?.getD undef = .int .i64 v1 := (RY.ev_tmp a 7).trans ((hk 7 (by kernel_rfl)).trans rfl)
      exact Or.inl ⟨.int .i64 v1, X, by simp [execOp, go_sem, e7], rfl, rfl, hT.pure 5 (by decide) (by decide) (by decide)⟩
    | 6, ho =>
      injection ho with ho; subst ho
      obtain ⟨_, d38, q38⟩ := hd 4 _ 38 rfl rfl ⟨⟨4, .data⟩, by simp, rfl, rfl⟩
      have e38 : a.tmps[38]?.getD undef = .int .i64 ow := (RY.ev_tmp a 38).trans (d38.trans q38)
      obtain ⟨_, d39, q39⟩ := hd 5 _ 39 rfl rfl ⟨⟨5, .data⟩, by simp, rfl, rfl⟩
      have e39 : a.tmps[39]?.getD undef = .int .i64 v1 := (RY.ev_tmp a 39).trans (d39.trans q39)
      exact Or.inl ⟨.int .i64 m, X, by rw [hm]; by_cases hlt : ow < v1 <;> simp [go_sem, e38, e39, hlt, Builtin.min_, Builtin.min2] <;> omega, rfl, rfl, hT.pure 6 (by decide) (by decide) (by decide)⟩
    | 7, ho =>
      injection ho with ho; subst ho
      have e6 : a.tmps[6]?.getD undef = .pointer (some ⟨q, 0, none⟩) := (RY.ev_tmp a 6).trans ((hk 6 (by kernel_rfl)).trans rfl)
      exact Or.inl ⟨.pointer (some ⟨q, 10, none⟩), X, by simp [execOp, go_sem, e6], rfl, rfl, hT.pure 7 (by decide) (by decide) (by decide)⟩
    | 8, ho =>
      injection ho with ho; subst ho
      obtain ⟨_, d34, q34⟩ := hd 0 _ 34 rfl rfl ⟨⟨0, .data⟩, by simp, rfl, rfl⟩
      have e34 : a.tmps[34]?.getD undef = .int .i64 v1 := (RY.ev_tmp a 34).trans (d34.trans q34)
      obtain ⟨_, d41, q41⟩ := hd 7 _ 41 rfl rfl ⟨⟨7, .data⟩, by simp, rfl, rfl⟩
      have e41 : a.tmps[41]?.getD undef = .pointer (some ⟨q, 10, none⟩) := (RY.ev_tmp a 41).trans (d41.trans q41)
      obtain ⟨uu, eu⟩ := hT.box.own.cell 10 (by simp)
      exact Or.inr ⟨X.setCell ⟨q, 10, none⟩ (.int .i64 v1), by simp [execOp, go_sem, e34, e41, fz, eu], rfl, hT.store HQ.out 8 10 _ (by simp)⟩
    | 9, ho =>
      injection ho with ho; subst ho
      have e6 : a.tmps[6]?.getD undef = .pointer (some ⟨q, 0, none⟩) := (RY.ev_tmp a 6).trans ((hk 6 (by kernel_rfl)).trans rfl)
      exact Or.inl ⟨.pointer (some ⟨q, 11, none⟩), X, by simp [execOp, go_sem, e6], rfl, rfl, hT.pure 9 (by decide) (by decide) (by decide)⟩
    | 10, ho =>
      injection ho with ho; subst ho
      obtain ⟨_, d36, q36⟩ := hd 2 _ 36 rfl rfl ⟨⟨2, .data⟩, by simp, rfl, rfl⟩
      have e36 : a.tmps[36]?.getD undef = .int .i64 ol := (RY.ev_tmp a 36).trans (d36.trans q36)
      obtain ⟨_, d42, q42⟩ := hd 9 _ 42 rfl rfl ⟨⟨9, .data⟩, by simp, rfl, rfl⟩
      have e42 : a.tmps[42]?.getD undef = .pointer (some ⟨q, 11, none⟩) := (RY.ev_tmp a 42).trans (d42.trans q42)
      obtain ⟨uu, eu⟩ := hT.box.own.cell 11 (by simp)
      exact Or.inr ⟨X.setCell ⟨q, 11, none⟩ (.int .i64 ol), by simp [execOp, go_sem, e36, e42, fz, eu], rfl, hT.store HQ.out 10 11 _ (by simp)⟩
    | 11, ho =>
      injection ho with ho; subst ho
      have e6 : a.tmps[6]?.getD undef = .pointer (some ⟨q, 0, none⟩) := (RY.ev_tmp a 6).trans ((hk 6 (by kernel_rfl)).trans rfl)
      exact Or.inl ⟨.pointer (some ⟨q, 4, none⟩), X, by simp [execOp, go_sem, e6], rfl, rfl, hT.pure 11 (by decide) (by decide) (by decide)⟩
    | 12, ho =>
      injection ho with ho; subst ho
      obtain ⟨_, d40, q40⟩ := hd 6 _ 40 rfl rfl ⟨⟨6, .data⟩, by simp, rfl, rfl⟩
      have e40 : a.tmps[40]?.getD undef = .int .i64 m := (RY.ev_tmp a 40).trans (d40.trans q40)
      obtain ⟨_, d43, q43⟩ := hd 11 _ 43 rfl rfl ⟨⟨11, .data⟩, by simp, rfl, rfl⟩
      have e43 : a.tmps[43]?.getD undef = .pointer (some ⟨q, 4, none⟩) := (RY.ev_tmp a 43).trans (d43.trans q43)
      obtain ⟨uu, eu⟩ := hT.box.own.cell 4 (by simp)
      exact Or.inr ⟨X.setCell ⟨q, 4, none⟩ (.int .i64 m), by simp [execOp, go_sem, e40, e43, fz, eu], rfl, hT.store HQ.out 12 4 _ (by simp)⟩
    | n + 13, ho => simp at ho
  intro up vals vs x2 hup hvs hT
  have u8 := hup 8 (by decide)
  have u10 := hup 10 (by decide)
  have u12 := hup 12 (by decide)
  have HZ2 : Hid (WBox x2 q 29 [.string nm, .int .i64 0, .bool en, .int .i64 v0, .int .i64 m, .int .i64 v2, .int .i64 v3, .int .i64 0, .int .i64 v4, .int .i64 0, .int .i64 v1, .int .i64 ol, .int .i64 0]) := by show WBox _ _ _ _; have := hT.box; rw [u8, u10, u12] at this; exact this
  have HO2 := uh hT.res
  have HB2 := uh hT.bel
  simp only [RY.putAll, Act.put, List.setIfInBounds_toArray, List.set_cons_zero, List.set_cons_succ]
  generalize vs 34 = k34
  generalize vs 35 = k35
  generalize vs 36 = k36
  generalize vs 37 = k37
  generalize vs 38 = k38
  generalize vs 39 = k39
  generalize vs 40 = k40
  generalize vs 41 = k41
  generalize vs 42 = k42
  generalize vs 43 = k43
  clear hvs hT hup u8 u10 u12 vals up HO HB HZ HY
  have HO := HO2
  clear hm
  have hol := HO.out.own.lt
  have hxl := HZ2.out.own.lt
  have hxa := HZ2.out.at_
  have hth : x2.there (W.heap.size + 2) 0 (#[.string nm, .int .i64 0, .bool en, .int .i64 v0, .int .i64 m, .int .i64 v2, .int .i64 v3, .int .i64 0, .int .i64 v4, .int .i64 0, .int .i64 v1, .int .i64 ol, .int .i64 0] : Array Value).size := uthere HO.out.own _ _ (by simp)
  obtain ⟨we, hwe⟩ : ∃ we, we = x2.setCells (W.heap.size + 2) 0 [.string nm, .int .i64 0, .bool en, .int .i64 v0, .int .i64 m, .int .i64 v2, .int .i64 v3, .int .i64 0, .int .i64 v4, .int .i64 0, .int .i64 v1, .int .i64 ol, .int .i64 0] := ⟨_, rfl⟩
  have hrt : we.rangeAt (W.heap.size + 2) 0 [.string nm, .int .i64 0, .bool en, .int .i64 v0, .int .i64 m, .int .i64 v2, .int .i64 v3, .int .i64 0, .int .i64 v4, .int .i64 0, .int .i64 v1, .int .i64 ol, .int .i64 0] := by rw [hwe]; exact World.rangeAt_setCells_same _ _ _ _ hth
  have HBB : Hid (Below W.heap.size W we) := by show Below _ _ _; rw [hwe]; exact blw_scs (by omega) _ _ _ HB2.out
  go_wp2_with (first | (refine wpList_load_mid rfl 29 _ rfl q 0 rfl [.string nm, .int .i64 0, .bool en, .int .i64 v0, .int .i64 m, .int .i64 v2, .int .i64 v3, .int .i64 0, .int .i64 v4, .int .i64 0, .int .i64 v1, .int .i64 ol, .int .i64 0] _ hxa Try.underlying29 rfl (by kernel_rfl) ?_) | (refine wpList_store_mid rfl 29 _ _ rfl (W.heap.size + 2) 0 #[.string nm, .int .i64 0, .bool en, .int .i64 v0, .int .i64 m, .int .i64 v2, .int .i64 v3, .int .i64 0, .int .i64 v4, .int .i64 0, .int .i64 v1, .int .i64 ol, .int .i64 0] rfl rfl hth (by kernel_rfl) (by simp [Value.oneCell']) ?_))
  first | rw [← hwe] | (simp only [List.toList_toArray]; rw [← hwe])
  try simp only [Act.put]
  refine bodyPost_ret (v := .agg #[.string nm, .int .i64 0, .bool en, .int .i64 v0, .int .i64 m, .int .i64 v2, .int .i64 v3, .int .i64 0, .int .i64 v4, .int .i64 0, .int .i64 v1, .int .i64 ol, .int .i64 0]) (by simp [results, Try.results9, asAddr, run_loadVar_mid (P := Try.prog) _ _ _ 29 [.string nm, .int .i64 0, .bool en, .int .i64 v0, .int .i64 m, .int .i64 v2, .int .i64 v3, .int .i64 0, .int .i64 v4, .int .i64 0, .int .i64 v1, .int .i64 ol, .int .i64 0] _ hrt Try.underlying29 rfl (by kernel_rfl)]) rfl ?_
  rw [HR.out]
  exact ⟨[.string nm, .int .i64 0, .bool en, .int .i64 v0, .int .i64 m, .int .i64 v2, .int .i64 v3, .int .i64 0, .int .i64 v4, .int .i64 0, .int .i64 v1, .int .i64 ol, .int .i64 0], [], rfl, repSv _ _ _ _ _ _ _ _ _ _ _ _ _, List.nodup_nil, by simp, HBB.out⟩
end Go.Proofs.Ytiiahpegdpbkgaa
