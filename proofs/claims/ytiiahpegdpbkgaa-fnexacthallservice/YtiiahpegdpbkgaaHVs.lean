/-
  The service that an object asks for: the specification.
-/
import Derived.BigFrame
import Derived.Test.YtiiahpegdpbkgaaHVp
namespace Go.Proofs.Ytiiahpegdpbkgaa
open Go.RowKit Go.Deep


set_option maxHeartbeats 1000000 in
theorem l31ValueS (s : ByteArray) (w : World) (hs : s.size ≤ maxLen) :
    Calls Try.prog 13 #[.string s] w fun e w' => e = .returned (.int .i64 (decOut s)) ∧ w = w' := by
  have HC := uh (l1Number_any s w hs)
  have HN := uh (numb_dec s)
  obtain ⟨n, hn⟩ : ∃ n, n = Pl.numb s := ⟨_, rfl⟩
  rw [← hn] at HC HN
  clear hn
  go_enter Try.func13, Try.ntmps13
  go_wp2_with fail
  refine HC.out.mono ?_
  rintro e w' ⟨rfl, rfl⟩
  by_cases h : n < 0
  · have HE : Hid (0 = decOut s) := by show _ = _; rw [← HN.out, if_pos h]
    go_wp2
    go_ret
    exact ⟨Pl.ret_int HE.out, rfl⟩
  · have HE : Hid (n = decOut s) := by show _ = _; rw [← HN.out, if_neg h]
    go_wp2
    go_ret
    exact ⟨Pl.ret_int HE.out, rfl⟩
def VHs (b0 p : Nat) (nm : ByteArray) (en : Bool) (l : List ByteArray) : Nat → Value → Prop
  | 0, u => u = .pointer (some ⟨b0, 1, none⟩)
  | 1, u => u = .string nm
  | 2, u => u = .pointer (some ⟨b0, 4, none⟩)
  | 3, u => u = .bool en
  | 4, u => u = .pointer (some ⟨b0, 3, none⟩)
  | 5, u => u = .slice (some ⟨p, 0, none⟩) 6 6
  | 6, u => u = .pointer (some ⟨p, 0, none⟩)
  | 7, u => u = .string (l.getD 0 ByteArray.empty)
  | 8, u => u = .int .i64 (svV l 0)
  | 9, u => u = .pointer (some ⟨b0, 3, none⟩)
  | 10, u => u = .slice (some ⟨p, 0, none⟩) 6 6
  | 11, u => u = .pointer (some ⟨p, 1, none⟩)
  | 12, u => u = .string (l.getD 1 ByteArray.empty)
  | 13, u => u = .int .i64 (svV l 1)
  | 14, u => u = .pointer (some ⟨b0, 3, none⟩)
  | 15, u => u = .slice (some ⟨p, 0, none⟩) 6 6
  | 16, u => u = .pointer (some ⟨p, 2, none⟩)
  | 17, u => u = .string (l.getD 2 ByteArray.empty)
  | 18, u => u = .int .i64 (svV l 2)
  | 19, u => u = .pointer (some ⟨b0, 3, none⟩)
  | 20, u => u = .slice (some ⟨p, 0, none⟩) 6 6
  | 21, u => u = .pointer (some ⟨p, 3, none⟩)
  | 22, u => u = .string (l.getD 3 ByteArray.empty)
  | 23, u => u = .int .i64 (svV l 3)
  | 24, u => u = .pointer (some ⟨b0, 3, none⟩)
  | 25, u => u = .slice (some ⟨p, 0, none⟩) 6 6
  | 26, u => u = .pointer (some ⟨p, 4, none⟩)
  | 27, u => u = .string (l.getD 4 ByteArray.empty)
  | 28, u => u = .int .i64 (svV l 4)
  | 29, u => u = .agg #[.string nm, .int .i64 0, .bool en, .int .i64 (svV l 0), .int .i64 (svV l 1), .int .i64 (svV l 2), .int .i64 (svV l 3), .int .i64 0, .int .i64 (svV l 4), .int .i64 0, .int .i64 0, .int .i64 0, .int .i64 0]
  | _, _ => True

set_option maxRecDepth 8000 in
set_option maxHeartbeats 16000000 in
theorem hallServiceS (kd nm tm : ByteArray) (l : List ByteArray) (en : Bool) (hv : Value) (ver : Int) (dl : List Value) (ow ol : Int) (p : Nat) (W : World) (hl : dl.length = 13) (h4 : dl[4]? = some (.int .i64 ow)) (h11 : dl[11]? = some (.int .i64 ol)) (hp : p < W.heap.size) (hc : ∀ i, i < l.length → W.cell? ⟨p, i, none⟩ = some (.string (l.getD i ByteArray.empty))) (hs : ∀ i, i < l.length → (l.getD i ByteArray.empty).size ≤ maxLen) :
    Calls Try.prog 6 #[.agg #[.string kd, .string nm, .string tm, .slice (some ⟨p, 0, none⟩) l.length l.length, .bool en, hv, .int .i64 ver], .agg dl.toArray] W (Ans shStewService (svD nm en l ow ol) W) := by
  have HC : Hid (∀ i, i < l.length → W.cell? ⟨p, i, none⟩ = some (.string (l.getD i ByteArray.empty))) := hc
  have HS : Hid (∀ i, i < l.length → (l.getD i ByteArray.empty).size ≤ maxLen) := hs
  have HP := uh hp
  have H4 := uh h4
  have H11 := uh h11
  have HL := uh hl
  clear hc hs hp h4 h11 hl
  obtain ⟨wa, hwa⟩ : ∃ wa, wa = ((W.alloc (.cells #[.string kd, .string nm, .string tm, .slice (some ⟨p, 0, none⟩) l.length l.length, .bool en, hv, .int .i64 ver] 31)).alloc (.cells dl.toArray 29)).alloc (.cells #[.string { data := #[] }, .int .i64 0, .bool false, .int .i64 0, .int .i64 0, .int .i64 0, .int .i64 0, .int .i64 0, .int .i64 0, .int .i64 0, .int .i64 0, .int .i64 0, .int .i64 0] 29) := ⟨_, rfl⟩
  have HB : Hid (Below W.heap.size W wa) := by show Below _ _ _; rw [hwa]; exact blw_alloc (blw_alloc (blw_alloc (Below.refl _ _) _) _) _
  have HX : Hid (LBox wa W.heap.size [.string kd, .string nm, .string tm, .slice (some ⟨p, 0, none⟩) l.length l.length, .bool en, hv, .int .i64 ver]) := by show LBox _ _ _; rw [hwa]; exact ((LBox.new W #[.string kd, .string nm, .string tm, .slice (some ⟨p, 0, none⟩) l.length l.length, .bool en, hv, .int .i64 ver] _ _ rfl).past _).past _
  have HY : Hid (LBox wa (W.heap.size + 1) dl) := by show LBox _ _ _; rw [hwa]; exact (LBox.new (W.alloc (.cells #[.string kd, .string nm, .string tm, .slice (some ⟨p, 0, none⟩) l.length l.length, .bool en, hv, .int .i64 ver] 31)) dl.toArray _ _ (by simp)).past _
  have HO : Hid (WBox wa (W.heap.size + 2) 29 [.string { data := #[] }, .int .i64 0, .bool false, .int .i64 0, .int .i64 0, .int .i64 0, .int .i64 0, .int .i64 0, .int .i64 0, .int .i64 0, .int .i64 0, .int .i64 0, .int .i64 0]) := by show WBox _ _ _ _; rw [hwa]; exact WBox.new _ [.string { data := #[] }, .int .i64 0, .bool false, .int .i64 0, .int .i64 0, .int .i64 0, .int .i64 0, .int .i64 0, .int .i64 0, .int .i64 0, .int .i64 0, .int .i64 0, .int .i64 0] _ _ (by simp)
  go_enter Try.func6, Try.ntmps6
  go_upto_region 1 with fail
  rw [← hwa]
  clear hwa
  have xz := HX.out.lt
  have x3 := HX.out.get 3 _ rfl
  by_cases h6 : l.length = 6
  rotate_left
  · have HR : Hid (svD nm en l ow ol = [.s ByteArray.empty, .i 0, .b false, .i 0, .i 0, .i 0, .i 0, .i 0, .i 0, .i 0, .i 0, .i 0, .i 0]) := by show _ = _; unfold svD; rw [if_neg h6]
    have h7 : ((l.length : Int) == 6) = false := by simpa using fun e : (l.length : Int) = 6 => h6 (by omega)
    have h8 : ((l.length : Int) != 6) = true := by rw [bne, h7]; rfl
    have hol := HO.out.own.lt
    have hth : wa.there (W.heap.size + 2) 0 (#[.string ByteArray.empty, .int .i64 0, .bool false, .int .i64 0, .int .i64 0, .int .i64 0, .int .i64 0, .int .i64 0, .int .i64 0, .int .i64 0, .int .i64 0, .int .i64 0, .int .i64 0] : Array Value).size := uthere HO.out.own _ _ (by simp)
    obtain ⟨we, hwe⟩ : ∃ we, we = wa.setCells (W.heap.size + 2) 0 [.string ByteArray.empty, .int .i64 0, .bool false, .int .i64 0, .int .i64 0, .int .i64 0, .int .i64 0, .int .i64 0, .int .i64 0, .int .i64 0, .int .i64 0, .int .i64 0, .int .i64 0] := ⟨_, rfl⟩
    have hrt : we.rangeAt (W.heap.size + 2) 0 [.string ByteArray.empty, .int .i64 0, .bool false, .int .i64 0, .int .i64 0, .int .i64 0, .int .i64 0, .int .i64 0, .int .i64 0, .int .i64 0, .int .i64 0, .int .i64 0, .int .i64 0] := by rw [hwe]; exact World.rangeAt_setCells_same _ _ _ _ hth
    have HBB : Hid (Below W.heap.size W we) := by show Below _ _ _; rw [hwe]; exact blw_scs (by omega) _ _ _ HB.out
    go_wp2_with (refine wpList_store_mid rfl 29 _ _ rfl (W.heap.size + 2) 0 #[.string ByteArray.empty, .int .i64 0, .bool false, .int .i64 0, .int .i64 0, .int .i64 0, .int .i64 0, .int .i64 0, .int .i64 0, .int .i64 0, .int .i64 0, .int .i64 0, .int .i64 0] rfl rfl hth (by kernel_rfl) (by simp [Value.oneCell']) ?_)
    first | rw [← hwe] | (simp only [List.toList_toArray]; rw [← hwe])
    try simp only [Act.put]
    refine bodyPost_ret (v := .agg #[.string ByteArray.empty, .int .i64 0, .bool false, .int .i64 0, .int .i64 0, .int .i64 0, .int .i64 0, .int .i64 0, .int .i64 0, .int .i64 0, .int .i64 0, .int .i64 0, .int .i64 0]) (by simp [results, Try.results6, asAddr, run_loadVar_mid (P := Try.prog) _ _ _ 29 [.string ByteArray.empty, .int .i64 0, .bool false, .int .i64 0, .int .i64 0, .int .i64 0, .int .i64 0, .int .i64 0, .int .i64 0, .int .i64 0, .int .i64 0, .int .i64 0, .int .i64 0] _ hrt Try.underlying29 rfl (by kernel_rfl)]) rfl ?_
    rw [HR.out]
    exact ⟨[.string ByteArray.empty, .int .i64 0, .bool false, .int .i64 0, .int .i64 0, .int .i64 0, .int .i64 0, .int .i64 0, .int .i64 0, .int .i64 0, .int .i64 0, .int .i64 0, .int .i64 0], [], rfl, repSv _ _ _ _ _ _ _ _ _ _ _ _ _, List.nodup_nil, by simp, HBB.out⟩
  have HR : Hid (svD nm en l ow ol = if svV l 4 = 0 then [.s nm, .i 0, .b en, .i (svV l 0), .i (svV l 1), .i (svV l 2), .i (svV l 3), .i 0, .i (svV l 4), .i 0, .i 0, .i 0, .i 0] else [.s nm, .i 0, .b en, .i (svV l 0), .i (if ow < svV l 1 then ow else svV l 1), .i (svV l 2), .i (svV l 3), .i 0, .i (svV l 4), .i 0, .i (svV l 1), .i ol, .i 0]) := by show _ = _; unfold svD; rw [if_pos h6]
  have HN : Hid (∀ i, i < 6 → Below W.heap.size W wa → True) := fun _ _ _ => trivial
  clear HN
  have HC6 : Hid (∀ i, i < 6 → W.cell? ⟨p, i, none⟩ = some (.string (l.getD i ByteArray.empty))) := fun i hi => HC.out i (by omega)
  have HS6 : Hid (∀ i, i < 6 → (l.getD i ByteArray.empty).size ≤ maxLen) := fun i hi => HS.out i (by omega)
  rw [h6] at x3 HX
  have h7 : ((6 : Int) == 6) = true := by rfl
  clear HC HS
  clear h6
  go_upto_region 3 with fail
  clear x3 xz
  refine RY.region_let wa (Below.refl _ _) (VHs W.heap.size p nm en l) 30 29 31 5 40 29 13 [.string nm, .int .i64 0, .bool en, .int .i64 (svV l 0), .int .i64 (svV l 1), .int .i64 (svV l 2), .int .i64 (svV l 3), .int .i64 0, .int .i64 (svV l 4), .int .i64 0, .int .i64 0, .int .i64 0, .int .i64 0] [.string { data := #[] }, .int .i64 0, .bool false, .int .i64 0, .int .i64 0, .int .i64 0, .int .i64 0, .int .i64 0, .int .i64 0, .int .i64 0, .int .i64 0, .int .i64 0, .int .i64 0] (by kernel_rfl) (by kernel_rfl) (by kernel_rfl) (by kernel_rfl) _ _ _ rfl rfl rfl rfl rfl rfl rfl (by decide) (by decide) (by decide) (by kernel_rfl) (by kernel_rfl) rfl ?_ rfl ?_ (by kernel_rfl) (fun u h => h) ?_ ?_
  · intro a Wx
    kernel_rfl
  · intro x hx
    simp only [List.mem_cons, List.not_mem_nil, or_false] at hx
    rcases hx with rfl | rfl | rfl | rfl | rfl | rfl | rfl | rfl | rfl | rfl | rfl | rfl | rfl <;> rfl
  · intro i o ho nA nS a Wx hW hk hd
    match i, ho with
    | 0, ho =>
      injection ho with ho; subst ho
      have e2 : a.tmps[2]?.getD undef = .pointer (some ⟨W.heap.size, 0, none⟩) := (RY.ev_tmp a 2).trans ((hk 2 (by kernel_rfl)).trans rfl)
      exact Or.inl ⟨.pointer (some ⟨W.heap.size, 1, none⟩), Wx, by simp [execOp, go_sem, e2], Below.refl _ _, rfl⟩
    | 1, ho =>
      injection ho with ho; subst ho
      have e11 : a.tmps[11]?.getD undef = .pointer (some ⟨W.heap.size, 1, none⟩) := (RY.ev_tmp a 11).trans (hd 0 _ 11 rfl rfl (by decide) ⟨⟨0, .data⟩, by simp, rfl, rfl⟩)
      have yc := (HX.out.later hW).get 1 _ rfl
      exact Or.inl ⟨.string nm, Wx, by simp [execOp, go_sem, e11, yc], Below.refl _ _, rfl⟩
    | 2, ho =>
      injection ho with ho; subst ho
      have e2 : a.tmps[2]?.getD undef = .pointer (some ⟨W.heap.size, 0, none⟩) := (RY.ev_tmp a 2).trans ((hk 2 (by kernel_rfl)).trans rfl)
      exact Or.inl ⟨.pointer (some ⟨W.heap.size, 4, none⟩), Wx, by simp [execOp, go_sem, e2], Below.refl _ _, rfl⟩
    | 3, ho =>
      injection ho with ho; subst ho
      have e13 : a.tmps[13]?.getD undef = .pointer (some ⟨W.heap.size, 4, none⟩) := (RY.ev_tmp a 13).trans (hd 2 _ 13 rfl rfl (by decide) ⟨⟨2, .data⟩, by simp, rfl, rfl⟩)
      have yc := (HX.out.later hW).get 4 _ rfl
      exact Or.inl ⟨.bool en, Wx, by simp [execOp, go_sem, e13, yc], Below.refl _ _, rfl⟩
    | 4, ho =>
      injection ho with ho; subst ho
      have e2 : a.tmps[2]?.getD undef = .pointer (some ⟨W.heap.size, 0, none⟩) := (RY.ev_tmp a 2).trans ((hk 2 (by kernel_rfl)).trans rfl)
      exact Or.inl ⟨.pointer (some ⟨W.heap.size, 3, none⟩), Wx, by simp [execOp, go_sem, e2], Below.refl _ _, rfl⟩
    | 5, ho =>
      injection ho with ho; subst ho
      have e15 : a.tmps[15]?.getD undef = .pointer (some ⟨W.heap.size, 3, none⟩) := (RY.ev_tmp a 15).trans (hd 4 _ 15 rfl rfl (by decide) ⟨⟨4, .data⟩, by simp, rfl, rfl⟩)
      have yc := (HX.out.later hW).get 3 _ rfl
      exact Or.inl ⟨.slice (some ⟨p, 0, none⟩) 6 6, Wx, by simp [execOp, go_sem, e15, yc], Below.refl _ _, rfl⟩
    | 6, ho =>
      injection ho with ho; subst ho
      have e16 : a.tmps[16]?.getD undef = .slice (some ⟨p, 0, none⟩) 6 6 := (RY.ev_tmp a 16).trans (hd 5 _ 16 rfl rfl (by decide) ⟨⟨5, .data⟩, by simp, rfl, rfl⟩)
      exact Or.inl ⟨.pointer (some ⟨p, 0, none⟩), Wx, by simp [execOp, go_sem, e16], Below.refl _ _, rfl⟩
    | 7, ho =>
      injection ho with ho; subst ho
      have e17 : a.tmps[17]?.getD undef = .pointer (some ⟨p, 0, none⟩) := (RY.ev_tmp a 17).trans (hd 6 _ 17 rfl rfl (by decide) ⟨⟨6, .data⟩, by simp, rfl, rfl⟩)
      have yc := ((blw_trans HB.out hW).cell (p := ⟨p, 0, none⟩) HP.out).trans (HC6.out 0 (by decide))
      exact Or.inl ⟨.string (l.getD 0 ByteArray.empty), Wx, by simp [execOp, go_sem, e17, yc], Below.refl _ _, rfl⟩
    | 8, ho =>
      injection ho with ho; subst ho
      have e18 : a.tmps[18]?.getD undef = .string (l.getD 0 ByteArray.empty) := (RY.ev_tmp a 18).trans (hd 7 _ 18 rfl rfl (by decide) ⟨⟨7, .data⟩, by simp, rfl, rfl⟩)
      refine Or.inr ⟨13, #[.string (l.getD 0 ByteArray.empty)], by simp [go_sem, e18], (l31ValueS (l.getD 0 ByteArray.empty) Wx (HS6.out 0 (by decide))).mono ?_⟩
      rintro e W' ⟨rfl, rfl⟩
      exact ⟨_, rfl, Below.refl _ _, rfl⟩
    | 9, ho =>
      injection ho with ho; subst ho
      have e2 : a.tmps[2]?.getD undef = .pointer (some ⟨W.heap.size, 0, none⟩) := (RY.ev_tmp a 2).trans ((hk 2 (by kernel_rfl)).trans rfl)
      exact Or.inl ⟨.pointer (some ⟨W.heap.size, 3, none⟩), Wx, by simp [execOp, go_sem, e2], Below.refl _ _, rfl⟩
    | 10, ho =>
      injection ho with ho; subst ho
      have e20 : a.tmps[20]?.getD undef = .pointer (some ⟨W.heap.size, 3, none⟩) := (RY.ev_tmp a 20).trans (hd 9 _ 20 rfl rfl (by decide) ⟨⟨9, .data⟩, by simp, rfl, rfl⟩)
      have yc := (HX.out.later hW).get 3 _ rfl
      exact Or.inl ⟨.slice (some ⟨p, 0, none⟩) 6 6, Wx, by simp [execOp, go_sem, e20, yc], Below.refl _ _, rfl⟩
    | 11, ho =>
      injection ho with ho; subst ho
      have e21 : a.tmps[21]?.getD undef = .slice (some ⟨p, 0, none⟩) 6 6 := (RY.ev_tmp a 21).trans (hd 10 _ 21 rfl rfl (by decide) ⟨⟨10, .data⟩, by simp, rfl, rfl⟩)
      exact Or.inl ⟨.pointer (some ⟨p, 1, none⟩), Wx, by simp [execOp, go_sem, e21], Below.refl _ _, rfl⟩
    | 12, ho =>
      injection ho with ho; subst ho
      have e22 : a.tmps[22]?.getD undef = .pointer (some ⟨p, 1, none⟩) := (RY.ev_tmp a 22).trans (hd 11 _ 22 rfl rfl (by decide) ⟨⟨11, .data⟩, by simp, rfl, rfl⟩)
      have yc := ((blw_trans HB.out hW).cell (p := ⟨p, 1, none⟩) HP.out).trans (HC6.out 1 (by decide))
      exact Or.inl ⟨.string (l.getD 1 ByteArray.empty), Wx, by simp [execOp, go_sem, e22, yc], Below.refl _ _, rfl⟩
    | 13, ho =>
      injection ho with ho; subst ho
      have e23 : a.tmps[23]?.getD undef = .string (l.getD 1 ByteArray.empty) := (RY.ev_tmp a 23).trans (hd 12 _ 23 rfl rfl (by decide) ⟨⟨12, .data⟩, by simp, rfl, rfl⟩)
      refine Or.inr ⟨13, #[.string (l.getD 1 ByteArray.empty)], by simp [go_sem, e23], (l31ValueS (l.getD 1 ByteArray.empty) Wx (HS6.out 1 (by decide))).mono ?_⟩
      rintro e W' ⟨rfl, rfl⟩
      exact ⟨_, rfl, Below.refl _ _, rfl⟩
    | 14, ho =>
      injection ho with ho; subst ho
      have e2 : a.tmps[2]?.getD undef = .pointer (some ⟨W.heap.size, 0, none⟩) := (RY.ev_tmp a 2).trans ((hk 2 (by kernel_rfl)).trans rfl)
      exact Or.inl ⟨.pointer (some ⟨W.heap.size, 3, none⟩), Wx, by simp [execOp, go_sem, e2], Below.refl _ _, rfl⟩
    | 15, ho =>
      injection ho with ho; subst ho
      have e25 : a.tmps[25]?.getD undef = .pointer (some ⟨W.heap.size, 3, none⟩) := (RY.ev_tmp a 25).trans (hd 14 _ 25 rfl rfl (by decide) ⟨⟨14, .data⟩, by simp, rfl, rfl⟩)
      have yc := (HX.out.later hW).get 3 _ rfl
      exact Or.inl ⟨.slice (some ⟨p, 0, none⟩) 6 6, Wx, by simp [execOp, go_sem, e25, yc], Below.refl _ _, rfl⟩
    | 16, ho =>
      injection ho with ho; subst ho
      have e26 : a.tmps[26]?.getD undef = .slice (some ⟨p, 0, none⟩) 6 6 := (RY.ev_tmp a 26).trans (hd 15 _ 26 rfl rfl (by decide) ⟨⟨15, .data⟩, by simp, rfl, rfl⟩)
      exact Or.inl ⟨.pointer (some ⟨p, 2, none⟩), Wx, by simp [execOp, go_sem, e26], Below.refl _ _, rfl⟩
    | 17, ho =>
      injection ho with ho; subst ho
      have e27 : a.tmps[27]?.getD undef = .pointer (some ⟨p, 2, none⟩) := (RY.ev_tmp a 27).trans (hd 16 _ 27 rfl rfl (by decide) ⟨⟨16, .data⟩, by simp, rfl, rfl⟩)
      have yc := ((blw_trans HB.out hW).cell (p := ⟨p, 2, none⟩) HP.out).trans (HC6.out 2 (by decide))
      exact Or.inl ⟨.string (l.getD 2 ByteArray.empty), Wx, by simp [execOp, go_sem, e27, yc], Below.refl _ _, rfl⟩
    | 18, ho =>
      injection ho with ho; subst ho
      have e28 : a.tmps[28]?.getD undef = .string (l.getD 2 ByteArray.empty) := (RY.ev_tmp a 28).trans (hd 17 _ 28 rfl rfl (by decide) ⟨⟨17, .data⟩, by simp, rfl, rfl⟩)
      refine Or.inr ⟨13, #[.string (l.getD 2 ByteArray.empty)], by simp [go_sem, e28], (l31ValueS (l.getD 2 ByteArray.empty) Wx (HS6.out 2 (by decide))).mono ?_⟩
      rintro e W' ⟨rfl, rfl⟩
      exact ⟨_, rfl, Below.refl _ _, rfl⟩
    | 19, ho =>
      injection ho with ho; subst ho
      have e2 : a.tmps[2]?.getD undef = .pointer (some ⟨W.heap.size, 0, none⟩) := (RY.ev_tmp a 2).trans ((hk 2 (by kernel_rfl)).trans rfl)
      exact Or.inl ⟨.pointer (some ⟨W.heap.size, 3, none⟩), Wx, by simp [execOp, go_sem, e2], Below.refl _ _, rfl⟩
    | 20, ho =>
      injection ho with ho; subst ho
      have e30 : a.tmps[30]?.getD undef = .pointer (some ⟨W.heap.size, 3, none⟩) := (RY.ev_tmp a 30).trans (hd 19 _ 30 rfl rfl (by decide) ⟨⟨19, .data⟩, by simp, rfl, rfl⟩)
      have yc := (HX.out.later hW).get 3 _ rfl
      exact Or.inl ⟨.slice (some ⟨p, 0, none⟩) 6 6, Wx, by simp [execOp, go_sem, e30, yc], Below.refl _ _, rfl⟩
    | 21, ho =>
      injection ho with ho; subst ho
      have e31 : a.tmps[31]?.getD undef = .slice (some ⟨p, 0, none⟩) 6 6 := (RY.ev_tmp a 31).trans (hd 20 _ 31 rfl rfl (by decide) ⟨⟨20, .data⟩, by simp, rfl, rfl⟩)
      exact Or.inl ⟨.pointer (some ⟨p, 3, none⟩), Wx, by simp [execOp, go_sem, e31], Below.refl _ _, rfl⟩
    | 22, ho =>
      injection ho with ho; subst ho
      have e32 : a.tmps[32]?.getD undef = .pointer (some ⟨p, 3, none⟩) := (RY.ev_tmp a 32).trans (hd 21 _ 32 rfl rfl (by decide) ⟨⟨21, .data⟩, by simp, rfl, rfl⟩)
      have yc := ((blw_trans HB.out hW).cell (p := ⟨p, 3, none⟩) HP.out).trans (HC6.out 3 (by decide))
      exact Or.inl ⟨.string (l.getD 3 ByteArray.empty), Wx, by simp [execOp, go_sem, e32, yc], Below.refl _ _, rfl⟩
    | 23, ho =>
      injection ho with ho; subst ho
      have e33 : a.tmps[33]?.getD undef = .string (l.getD 3 ByteArray.empty) := (RY.ev_tmp a 33).trans (hd 22 _ 33 rfl rfl (by decide) ⟨⟨22, .data⟩, by simp, rfl, rfl⟩)
      refine Or.inr ⟨13, #[.string (l.getD 3 ByteArray.empty)], by simp [go_sem, e33], (l31ValueS (l.getD 3 ByteArray.empty) Wx (HS6.out 3 (by decide))).mono ?_⟩
      rintro e W' ⟨rfl, rfl⟩
      exact ⟨_, rfl, Below.refl _ _, rfl⟩
    | 24, ho =>
      injection ho with ho; subst ho
      have e2 : a.tmps[2]?.getD undef = .pointer (some ⟨W.heap.size, 0, none⟩) := (RY.ev_tmp a 2).trans ((hk 2 (by kernel_rfl)).trans rfl)
      exact Or.inl ⟨.pointer (some ⟨W.heap.size, 3, none⟩), Wx, by simp [execOp, go_sem, e2], Below.refl _ _, rfl⟩
    | 25, ho =>
      injection ho with ho; subst ho
      have e35 : a.tmps[35]?.getD undef = .pointer (some ⟨W.heap.size, 3, none⟩) := (RY.ev_tmp a 35).trans (hd 24 _ 35 rfl rfl (by decide) ⟨⟨24, .data⟩, by simp, rfl, rfl⟩)
      have yc := (HX.out.later hW).get 3 _ rfl
      exact Or.inl ⟨.slice (some ⟨p, 0, none⟩) 6 6, Wx, by simp [execOp, go_sem, e35, yc], Below.refl _ _, rfl⟩
    | 26, ho =>
      injection ho with ho; subst ho
      have e36 : a.tmps[36]?.getD undef = .slice (some ⟨p, 0, none⟩) 6 6 := (RY.ev_tmp a 36).trans (hd 25 _ 36 rfl rfl (by decide) ⟨⟨25, .data⟩, by simp, rfl, rfl⟩)
      exact Or.inl ⟨.pointer (some ⟨p, 4, none⟩), Wx, by simp [execOp, go_sem, e36], Below.refl _ _, rfl⟩
    | 27, ho =>
      injection ho with ho; subst ho
      have e37 : a.tmps[37]?.getD undef = .pointer (some ⟨p, 4, none⟩) := (RY.ev_tmp a 37).trans (hd 26 _ 37 rfl rfl (by decide) ⟨⟨26, .data⟩, by simp, rfl, rfl⟩)
      have yc := ((blw_trans HB.out hW).cell (p := ⟨p, 4, none⟩) HP.out).trans (HC6.out 4 (by decide))
      exact Or.inl ⟨.string (l.getD 4 ByteArray.empty), Wx, by simp [execOp, go_sem, e37, yc], Below.refl _ _, rfl⟩
    | 28, ho =>
      injection ho with ho; subst ho
      have e38 : a.tmps[38]?.getD undef = .string (l.getD 4 ByteArray.empty) := (RY.ev_tmp a 38).trans (hd 27 _ 38 rfl rfl (by decide) ⟨⟨27, .data⟩, by simp, rfl, rfl⟩)
      refine Or.inr ⟨13, #[.string (l.getD 4 ByteArray.empty)], by simp [go_sem, e38], (l31ValueS (l.getD 4 ByteArray.empty) Wx (HS6.out 4 (by decide))).mono ?_⟩
      rintro e W' ⟨rfl, rfl⟩
      exact ⟨_, rfl, Below.refl _ _, rfl⟩
    | 29, ho =>
      injection ho with ho; subst ho
      have e12 : a.tmps[12]?.getD undef = .string nm := (RY.ev_tmp a 12).trans (hd 1 _ 12 rfl rfl (by decide) ⟨⟨1, .data⟩, by simp, rfl, rfl⟩)
      have e14 : a.tmps[14]?.getD undef = .bool en := (RY.ev_tmp a 14).trans (hd 3 _ 14 rfl rfl (by decide) ⟨⟨3, .data⟩, by simp, rfl, rfl⟩)
      have e19 : a.tmps[19]?.getD undef = .int .i64 (svV l 0) := (RY.ev_tmp a 19).trans (hd 8 _ 19 rfl rfl (by decide) ⟨⟨8, .data⟩, by simp, rfl, rfl⟩)
      have e24 : a.tmps[24]?.getD undef = .int .i64 (svV l 1) := (RY.ev_tmp a 24).trans (hd 13 _ 24 rfl rfl (by decide) ⟨⟨13, .data⟩, by simp, rfl, rfl⟩)
      have e29 : a.tmps[29]?.getD undef = .int .i64 (svV l 2) := (RY.ev_tmp a 29).trans (hd 18 _ 29 rfl rfl (by decide) ⟨⟨18, .data⟩, by simp, rfl, rfl⟩)
      have e34 : a.tmps[34]?.getD undef = .int .i64 (svV l 3) := (RY.ev_tmp a 34).trans (hd 23 _ 34 rfl rfl (by decide) ⟨⟨23, .data⟩, by simp, rfl, rfl⟩)
      have e39 : a.tmps[39]?.getD undef = .int .i64 (svV l 4) := (RY.ev_tmp a 39).trans (hd 28 _ 39 rfl rfl (by decide) ⟨⟨28, .data⟩, by simp, rfl, rfl⟩)
      exact Or.inl ⟨.agg #[.string nm, .int .i64 0, .bool en, .int .i64 (svV l 0), .int .i64 (svV l 1), .int .i64 (svV l 2), .int .i64 (svV l 3), .int .i64 0, .int .i64 (svV l 4), .int .i64 0, .int .i64 0, .int .i64 0, .int .i64 0], Wx, by simp [execOp, go_sem, e12, e14, e19, e24, e29, e34, e39], Below.refl _ _, rfl⟩
    | 30, ho => exact absurd rfl nA
    | 31, ho => exact absurd rfl nS
    | n + 32, ho => simp at ho
  intro w2 vs q hW hvs hq hqv hqo hqr
  simp only [RY.putAll, Act.put, List.setIfInBounds_toArray, List.set_cons_zero, List.set_cons_succ]
  rw [hq]
  generalize vs 11 = g11
  generalize vs 12 = g12
  generalize vs 13 = g13
  generalize vs 14 = g14
  generalize vs 15 = g15
  generalize vs 16 = g16
  generalize vs 17 = g17
  generalize vs 18 = g18
  generalize vs 19 = g19
  generalize vs 20 = g20
  generalize vs 21 = g21
  generalize vs 22 = g22
  generalize vs 23 = g23
  generalize vs 24 = g24
  generalize vs 25 = g25
  generalize vs 26 = g26
  generalize vs 27 = g27
  generalize vs 28 = g28
  generalize vs 29 = g29
  generalize vs 30 = g30
  generalize vs 31 = g31
  generalize vs 32 = g32
  generalize vs 33 = g33
  generalize vs 34 = g34
  generalize vs 35 = g35
  generalize vs 36 = g36
  generalize vs 37 = g37
  generalize vs 38 = g38
  generalize vs 39 = g39
  generalize vs 40 = g40
  clear hvs hq
  have HZ : Hid (WBox w2 q 29 [.string nm, .int .i64 0, .bool en, .int .i64 (svV l 0), .int .i64 (svV l 1), .int .i64 (svV l 2), .int .i64 (svV l 3), .int .i64 0, .int .i64 (svV l 4), .int .i64 0, .int .i64 0, .int .i64 0, .int .i64 0]) := ⟨hqo, hqr⟩
  have HQ : Hid (wa.heap.size ≤ q) := hqv
  have HQ2 : Hid (W.heap.size + 3 ≤ wa.heap.size) := by show _ ≤ _; have := HO.out.own.lt; omega
  clear hqo hqr hqv
  replace HB := uh (blw_trans HB.out hW)
  replace HY := uh (HY.out.later hW)
  replace HO := uh (HO.out.later hW)
  clear hW HX HC6 HS6 HP
  obtain ⟨v0, hv0⟩ : ∃ v, v = svV l 0 := ⟨_, rfl⟩
  obtain ⟨v1, hv1⟩ : ∃ v, v = svV l 1 := ⟨_, rfl⟩
  obtain ⟨v2, hv2⟩ : ∃ v, v = svV l 2 := ⟨_, rfl⟩
  obtain ⟨v3, hv3⟩ : ∃ v, v = svV l 3 := ⟨_, rfl⟩
  obtain ⟨v4, hv4⟩ : ∃ v, v = svV l 4 := ⟨_, rfl⟩
  have hp4 : 0 ≤ v4 := by rw [hv4]; exact svV_pos l 4
  rw [← hv0, ← hv1, ← hv2, ← hv3, ← hv4] at HZ HR
  clear hv0 hv1 hv2 hv3 hv4
  have z8 := HZ.out.get 8 _ rfl
  have zl := HZ.out.own.lt
  by_cases hv : v4 = 0
  · have hn : ¬ 0 < v4 := by omega
    rw [if_pos hv] at HR
    clear hv
    go_upto_region 9 with fail
    clear z8 zl hn
    have hol := HO.out.own.lt
    have hxl := HZ.out.own.lt
    have hxa := HZ.out.at_
    have hth : w2.there (W.heap.size + 2) 0 (#[.string nm, .int .i64 0, .bool en, .int .i64 v0, .int .i64 v1, .int .i64 v2, .int .i64 v3, .int .i64 0, .int .i64 v4, .int .i64 0, .int .i64 0, .int .i64 0, .int .i64 0] : Array Value).size := uthere HO.out.own _ _ (by simp)
    obtain ⟨we, hwe⟩ : ∃ we, we = w2.setCells (W.heap.size + 2) 0 [.string nm, .int .i64 0, .bool en, .int .i64 v0, .int .i64 v1, .int .i64 v2, .int .i64 v3, .int .i64 0, .int .i64 v4, .int .i64 0, .int .i64 0, .int .i64 0, .int .i64 0] := ⟨_, rfl⟩
    have hrt : we.rangeAt (W.heap.size + 2) 0 [.string nm, .int .i64 0, .bool en, .int .i64 v0, .int .i64 v1, .int .i64 v2, .int .i64 v3, .int .i64 0, .int .i64 v4, .int .i64 0, .int .i64 0, .int .i64 0, .int .i64 0] := by rw [hwe]; exact World.rangeAt_setCells_same _ _ _ _ hth
    have HBB : Hid (Below W.heap.size W we) := by show Below _ _ _; rw [hwe]; exact blw_scs (by omega) _ _ _ HB.out
    go_wp2_with (first | (refine wpList_load_mid rfl 29 _ rfl q 0 rfl [.string nm, .int .i64 0, .bool en, .int .i64 v0, .int .i64 v1, .int .i64 v2, .int .i64 v3, .int .i64 0, .int .i64 v4, .int .i64 0, .int .i64 0, .int .i64 0, .int .i64 0] _ hxa Try.underlying29 rfl (by kernel_rfl) ?_) | (refine wpList_store_mid rfl 29 _ _ rfl (W.heap.size + 2) 0 #[.string nm, .int .i64 0, .bool en, .int .i64 v0, .int .i64 v1, .int .i64 v2, .int .i64 v3, .int .i64 0, .int .i64 v4, .int .i64 0, .int .i64 0, .int .i64 0, .int .i64 0] rfl rfl hth (by kernel_rfl) (by simp [Value.oneCell']) ?_))
    first | rw [← hwe] | (simp only [List.toList_toArray]; rw [← hwe])
    try simp only [Act.put]
    refine bodyPost_ret (v := .agg #[.string nm, .int .i64 0, .bool en, .int .i64 v0, .int .i64 v1, .int .i64 v2, .int .i64 v3, .int .i64 0, .int .i64 v4, .int .i64 0, .int .i64 0, .int .i64 0, .int .i64 0]) (by simp [results, Try.results6, asAddr, run_loadVar_mid (P := Try.prog) _ _ _ 29 [.string nm, .int .i64 0, .bool en, .int .i64 v0, .int .i64 v1, .int .i64 v2, .int .i64 v3, .int .i64 0, .int .i64 v4, .int .i64 0, .int .i64 0, .int .i64 0, .int .i64 0] _ hrt Try.underlying29 rfl (by kernel_rfl)]) rfl ?_
    rw [HR.out]
    exact ⟨[.string nm, .int .i64 0, .bool en, .int .i64 v0, .int .i64 v1, .int .i64 v2, .int .i64 v3, .int .i64 0, .int .i64 v4, .int .i64 0, .int .i64 0, .int .i64 0, .int .i64 0], [], rfl, repSv _ _ _ _ _ _ _ _ _ _ _ _ _, List.nodup_nil, by simp, HBB.out⟩
  have hn : 0 < v4 := by omega
  rw [if_neg hv] at HR
  clear hv
  have z4 := HZ.out.get 4 _ rfl
  have zf := HZ.out.own.frozen
  have y4 := HY.out.get 4 _ H4.out
  have y11 := HY.out.get 11 _ H11.out
  have yl := HY.out.lt
  obtain ⟨x1, hx1⟩ : ∃ x, x = w2.setCell ⟨q, 10, none⟩ (.int .i64 v1) := ⟨_, rfl⟩
  obtain ⟨x2, hx2⟩ : ∃ x, x = x1.setCell ⟨q, 11, none⟩ (.int .i64 ol) := ⟨_, rfl⟩
  have HNE : Hid (W.heap.size + 1 ≠ q ∧ W.heap.size + 2 ≠ q) := by show _ ∧ _; have := HQ.out; have := HQ2.out; omega
  have HZ1 : Hid (WBox x1 q 29 ([.string nm, .int .i64 0, .bool en, .int .i64 v0, .int .i64 v1, .int .i64 v2, .int .i64 v3, .int .i64 0, .int .i64 v4, .int .i64 0, .int .i64 v1, .int .i64 0, .int .i64 0])) := by show WBox _ _ _ _; rw [hx1]; exact HZ.out.set 10 _ (by simp)
  have HY1 : Hid (LBox x1 (W.heap.size + 1) dl) := by show LBox _ _ _; rw [hx1]; exact HY.out.other_ HNE.out.1 _ _
  have HO1 : Hid (WBox x1 (W.heap.size + 2) 29 [.string { data := #[] }, .int .i64 0, .bool false, .int .i64 0, .int .i64 0, .int .i64 0, .int .i64 0, .int .i64 0, .int .i64 0, .int .i64 0, .int .i64 0, .int .i64 0, .int .i64 0]) := by show WBox _ _ _ _; rw [hx1]; exact HO.out.other HNE.out.2 _ _
  have HB1 : Hid (Below W.heap.size W x1) := by show Below _ _ _; rw [hx1]; exact HB.out.setCell (p := ⟨q, 10, none⟩) (by show W.heap.size ≤ q; have := HQ.out; have := HQ2.out; omega) _
  have HZ2 : Hid (WBox x2 q 29 ([.string nm, .int .i64 0, .bool en, .int .i64 v0, .int .i64 v1, .int .i64 v2, .int .i64 v3, .int .i64 0, .int .i64 v4, .int .i64 0, .int .i64 v1, .int .i64 ol, .int .i64 0])) := by show WBox _ _ _ _; rw [hx2]; exact HZ1.out.set 11 _ (by simp)
  have HY2 : Hid (LBox x2 (W.heap.size + 1) dl) := by show LBox _ _ _; rw [hx2]; exact HY1.out.other_ HNE.out.1 _ _
  have HO2 : Hid (WBox x2 (W.heap.size + 2) 29 [.string { data := #[] }, .int .i64 0, .bool false, .int .i64 0, .int .i64 0, .int .i64 0, .int .i64 0, .int .i64 0, .int .i64 0, .int .i64 0, .int .i64 0, .int .i64 0, .int .i64 0]) := by show WBox _ _ _ _; rw [hx2]; exact HO1.out.other HNE.out.2 _ _
  have HB2 : Hid (Below W.heap.size W x2) := by show Below _ _ _; rw [hx2]; exact HB1.out.setCell (p := ⟨q, 11, none⟩) (by show W.heap.size ≤ q; have := HQ.out; have := HQ2.out; omega) _
  have z10 := HZ.out.get 10 _ rfl
  go_upto_region 6 with fail
  rw [← hx1]
  clear hx1 z8 z4 zf y4 y11 yl zl z10 HZ HY HO HB
  have z11 := HZ1.out.get 11 _ rfl
  have zf := HZ1.out.own.frozen
  have zl := HZ1.out.own.lt
  have y11 := HY1.out.get 11 _ H11.out
  have yl := HY1.out.lt
  go_upto_region 7 with fail
  rw [← hx2]
  clear hx2 z11 zf zl y11 yl HZ1 HY1 HO1 HB1
  have z4 := HZ2.out.get 4 _ rfl
  have zl := HZ2.out.own.lt
  have zf := HZ2.out.own.frozen
  have y4 := HY2.out.get 4 _ H4.out
  have yl := HY2.out.lt
  by_cases hlt : ow < v1
  · rw [if_pos hlt] at HR
    obtain ⟨x3, hx3⟩ : ∃ x, x = x2.setCell ⟨q, 4, none⟩ (.int .i64 ow) := ⟨_, rfl⟩
    have HZ : Hid (WBox x3 q 29 ([.string nm, .int .i64 0, .bool en, .int .i64 v0, .int .i64 ow, .int .i64 v2, .int .i64 v3, .int .i64 0, .int .i64 v4, .int .i64 0, .int .i64 v1, .int .i64 ol, .int .i64 0])) := by show WBox _ _ _ _; rw [hx3]; exact HZ2.out.set 4 _ (by simp)
    have HO : Hid (WBox x3 (W.heap.size + 2) 29 [.string { data := #[] }, .int .i64 0, .bool false, .int .i64 0, .int .i64 0, .int .i64 0, .int .i64 0, .int .i64 0, .int .i64 0, .int .i64 0, .int .i64 0, .int .i64 0, .int .i64 0]) := by show WBox _ _ _ _; rw [hx3]; exact HO2.out.other HNE.out.2 _ _
    have HB : Hid (Below W.heap.size W x3) := by show Below _ _ _; rw [hx3]; exact HB2.out.setCell (p := ⟨q, 4, none⟩) (by show W.heap.size ≤ q; have := HQ.out; have := HQ2.out; omega) _
    go_upto_region 9 with fail
    rw [← hx3]
    clear hx3 z4 zl zf y4 yl hlt hn hp4
    have hol := HO.out.own.lt
    have hxl := HZ.out.own.lt
    have hxa := HZ.out.at_
    have hth : x3.there (W.heap.size + 2) 0 (#[.string nm, .int .i64 0, .bool en, .int .i64 v0, .int .i64 ow, .int .i64 v2, .int .i64 v3, .int .i64 0, .int .i64 v4, .int .i64 0, .int .i64 v1, .int .i64 ol, .int .i64 0] : Array Value).size := uthere HO.out.own _ _ (by simp)
    obtain ⟨we, hwe⟩ : ∃ we, we = x3.setCells (W.heap.size + 2) 0 [.string nm, .int .i64 0, .bool en, .int .i64 v0, .int .i64 ow, .int .i64 v2, .int .i64 v3, .int .i64 0, .int .i64 v4, .int .i64 0, .int .i64 v1, .int .i64 ol, .int .i64 0] := ⟨_, rfl⟩
    have hrt : we.rangeAt (W.heap.size + 2) 0 [.string nm, .int .i64 0, .bool en, .int .i64 v0, .int .i64 ow, .int .i64 v2, .int .i64 v3, .int .i64 0, .int .i64 v4, .int .i64 0, .int .i64 v1, .int .i64 ol, .int .i64 0] := by rw [hwe]; exact World.rangeAt_setCells_same _ _ _ _ hth
    have HBB : Hid (Below W.heap.size W we) := by show Below _ _ _; rw [hwe]; exact blw_scs (by omega) _ _ _ HB.out
    go_wp2_with (first | (refine wpList_load_mid rfl 29 _ rfl q 0 rfl [.string nm, .int .i64 0, .bool en, .int .i64 v0, .int .i64 ow, .int .i64 v2, .int .i64 v3, .int .i64 0, .int .i64 v4, .int .i64 0, .int .i64 v1, .int .i64 ol, .int .i64 0] _ hxa Try.underlying29 rfl (by kernel_rfl) ?_) | (refine wpList_store_mid rfl 29 _ _ rfl (W.heap.size + 2) 0 #[.string nm, .int .i64 0, .bool en, .int .i64 v0, .int .i64 ow, .int .i64 v2, .int .i64 v3, .int .i64 0, .int .i64 v4, .int .i64 0, .int .i64 v1, .int .i64 ol, .int .i64 0] rfl rfl hth (by kernel_rfl) (by simp [Value.oneCell']) ?_))
    first | rw [← hwe] | (simp only [List.toList_toArray]; rw [← hwe])
    try simp only [Act.put]
    refine bodyPost_ret (v := .agg #[.string nm, .int .i64 0, .bool en, .int .i64 v0, .int .i64 ow, .int .i64 v2, .int .i64 v3, .int .i64 0, .int .i64 v4, .int .i64 0, .int .i64 v1, .int .i64 ol, .int .i64 0]) (by simp [results, Try.results6, asAddr, run_loadVar_mid (P := Try.prog) _ _ _ 29 [.string nm, .int .i64 0, .bool en, .int .i64 v0, .int .i64 ow, .int .i64 v2, .int .i64 v3, .int .i64 0, .int .i64 v4, .int .i64 0, .int .i64 v1, .int .i64 ol, .int .i64 0] _ hrt Try.underlying29 rfl (by kernel_rfl)]) rfl ?_
    rw [HR.out]
    exact ⟨[.string nm, .int .i64 0, .bool en, .int .i64 v0, .int .i64 ow, .int .i64 v2, .int .i64 v3, .int .i64 0, .int .i64 v4, .int .i64 0, .int .i64 v1, .int .i64 ol, .int .i64 0], [], rfl, repSv _ _ _ _ _ _ _ _ _ _ _ _ _, List.nodup_nil, by simp, HBB.out⟩
  · rw [if_neg hlt] at HR
    have HO := HO2
    go_upto_region 9 with fail
    clear z4 zl zf y4 yl hlt hn hp4
    have hol := HO.out.own.lt
    have hxl := HZ2.out.own.lt
    have hxa := HZ2.out.at_
    have hth : x2.there (W.heap.size + 2) 0 (#[.string nm, .int .i64 0, .bool en, .int .i64 v0, .int .i64 v1, .int .i64 v2, .int .i64 v3, .int .i64 0, .int .i64 v4, .int .i64 0, .int .i64 v1, .int .i64 ol, .int .i64 0] : Array Value).size := uthere HO.out.own _ _ (by simp)
    obtain ⟨we, hwe⟩ : ∃ we, we = x2.setCells (W.heap.size + 2) 0 [.string nm, .int .i64 0, .bool en, .int .i64 v0, .int .i64 v1, .int .i64 v2, .int .i64 v3, .int .i64 0, .int .i64 v4, .int .i64 0, .int .i64 v1, .int .i64 ol, .int .i64 0] := ⟨_, rfl⟩
    have hrt : we.rangeAt (W.heap.size + 2) 0 [.string nm, .int .i64 0, .bool en, .int .i64 v0, .int .i64 v1, .int .i64 v2, .int .i64 v3, .int .i64 0, .int .i64 v4, .int .i64 0, .int .i64 v1, .int .i64 ol, .int .i64 0] := by rw [hwe]; exact World.rangeAt_setCells_same _ _ _ _ hth
    have HBB : Hid (Below W.heap.size W we) := by show Below _ _ _; rw [hwe]; exact blw_scs (by omega) _ _ _ HB2.out
    go_wp2_with (first | (refine wpList_load_mid rfl 29 _ rfl q 0 rfl [.string nm, .int .i64 0, .bool en, .int .i64 v0, .int .i64 v1, .int .i64 v2, .int .i64 v3, .int .i64 0, .int .i64 v4, .int .i64 0, .int .i64 v1, .int .i64 ol, .int .i64 0] _ hxa Try.underlying29 rfl (by kernel_rfl) ?_) | (refine wpList_store_mid rfl 29 _ _ rfl (W.heap.size + 2) 0 #[.string nm, .int .i64 0, .bool en, .int .i64 v0, .int .i64 v1, .int .i64 v2, .int .i64 v3, .int .i64 0, .int .i64 v4, .int .i64 0, .int .i64 v1, .int .i64 ol, .int .i64 0] rfl rfl hth (by kernel_rfl) (by simp [Value.oneCell']) ?_))
    first | rw [← hwe] | (simp only [List.toList_toArray]; rw [← hwe])
    try simp only [Act.put]
    refine bodyPost_ret (v := .agg #[.string nm, .int .i64 0, .bool en, .int .i64 v0, .int .i64 v1, .int .i64 v2, .int .i64 v3, .int .i64 0, .int .i64 v4, .int .i64 0, .int .i64 v1, .int .i64 ol, .int .i64 0]) (by simp [results, Try.results6, asAddr, run_loadVar_mid (P := Try.prog) _ _ _ 29 [.string nm, .int .i64 0, .bool en, .int .i64 v0, .int .i64 v1, .int .i64 v2, .int .i64 v3, .int .i64 0, .int .i64 v4, .int .i64 0, .int .i64 v1, .int .i64 ol, .int .i64 0] _ hrt Try.underlying29 rfl (by kernel_rfl)]) rfl ?_
    rw [HR.out]
    exact ⟨[.string nm, .int .i64 0, .bool en, .int .i64 v0, .int .i64 v1, .int .i64 v2, .int .i64 v3, .int .i64 0, .int .i64 v4, .int .i64 0, .int .i64 v1, .int .i64 ol, .int .i64 0], [], rfl, repSv _ _ _ _ _ _ _ _ _ _ _ _ _, List.nodup_nil, by simp, HBB.out⟩
end Go.Proofs.Ytiiahpegdpbkgaa
