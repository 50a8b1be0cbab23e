/-
  The specification's copy of a recorder.
-/
import Derived.Test.YtnifdpjmpbocnaaGreatKCb
import Derived.Test.YtnifdpjmpbocnaaGreatRgF
namespace Go.Proofs.YtnifdpjmpbocnaaGreat
open Go.RowKit Go.Deep

/-- What the operations of 'acks = append(acks, RecAck{..})' yield. -/
def VAck (B p o q lo : Nat) (u0 ua fa : Value) (a0 : Int) (n1 : Nat) (e1 : List Dt) (i : Nat) (u : Value) (W : World) : Prop :=
  match i with
  | 0 => u = u0
  | 1 => u = .pointer (some ⟨B, 16, none⟩)
  | 2 => u = ua
  | 3 => u = .int .i64 (q : Int)
  | 4 => u = .pointer (some ⟨p, o + q * 2, none⟩)
  | 5 => u = .pointer (some ⟨p, o + q * 2, none⟩)
  | 6 => u = .int .i64 a0
  | 7 => ∃ g, u = .slice (some ⟨g, 0, none⟩) 0 0 ∧ lo ≤ g ∧ W.heap[g]? = some (.cells #[] 3 (0, 0))
  | 8 => u = .pointer (some ⟨B, 16, none⟩)
  | 9 => u = ua
  | 10 => u = .int .i64 (q : Int)
  | 11 => u = .pointer (some ⟨p, o + q * 2, none⟩)
  | 12 => u = .pointer (some ⟨p, o + q * 2 + 1, none⟩)
  | 13 => u = fa
  | 14 => ∃ a c xs, u = .slice a n1 c ∧ Gr W lo 3 [.i] u n1 [] e1 xs
  | 15 => ∃ a c xs, u = .agg #[.int .i64 a0, .slice a n1 c] ∧ Gr W lo 3 [.i] (.slice a n1 c) n1 [] e1 xs
  | _ => ∃ b a c xs, u = .slice (some ⟨b, 0, none⟩) 1 1 ∧ W.heap[b]? = some (.cells #[.int .i64 a0, .slice a n1 c] 96 (0, 0)) ∧ Gr W lo 3 [.i] (.slice a n1 c) n1 [] e1 xs
theorem blk_later {W W' : World} (hb : Below W.heap.size W W') {g : Nat} {x : Obj} (h : W.heap[g]? = some x) : W'.heap[g]? = some x := (hb.block g (Array.getElem?_eq_some_iff.1 h).1).trans h
theorem VAck_mono (B p o q lo : Nat) (u0 ua fa : Value) (a0 : Int) (n1 : Nat) (e1 : List Dt) : ∀ j u W W', Below W.heap.size W W' → VAck B p o q lo u0 ua fa a0 n1 e1 j u W → VAck B p o q lo u0 ua fa a0 n1 e1 j u W' := by
  intro j u W W' hb h
  match j, h with
  | 0, h => exact h
  | 1, h => exact h
  | 2, h => exact h
  | 3, h => exact h
  | 4, h => exact h
  | 5, h => exact h
  | 6, h => exact h
  | 7, h => obtain ⟨g, h1, h2, h3⟩ := h; exact ⟨g, h1, h2, blk_later hb h3⟩
  | 8, h => exact h
  | 9, h => exact h
  | 10, h => exact h
  | 11, h => exact h
  | 12, h => exact h
  | 13, h => exact h
  | 14, h => obtain ⟨a, c, xs, h1, h2⟩ := h; exact ⟨a, c, xs, h1, h2.later hb⟩
  | 15, h => obtain ⟨a, c, xs, h1, h2⟩ := h; exact ⟨a, c, xs, h1, h2.later hb⟩
  | n + 16, h => obtain ⟨b, a, c, xs, h1, h2, h3⟩ := h; exact ⟨b, a, c, xs, h1, blk_later hb h2, h3.later hb⟩
set_option maxRecDepth 8000 in
set_option maxHeartbeats 16000000 in
theorem l22CopyC (ds : List Dt) (cs : List Value) (W : World) (h : Raw W shRecorder ds cs) (hw : wtL ds ≤ 4194304) :
    Calls Tryz.prog 18 #[.agg cs.toArray] W (Ans shRecorder ds W) := by
  obtain ⟨a0, a1, a2, a3, a4, n5, e5, a6, a7, n8, e8, n9, e9, n10, e10, a11, a12, a13, n14, e14, n15, e15, n16, e16, a17, rfl, t5, t8, t9, t10, t14, t15, t16⟩ := typRecorder h.typ
  obtain ⟨v5, v8, v9, v10, v14, v15, v16, hcs, r5, r8, r9, r10, r14, r15, r16⟩ := rawRecorder h
  simp only [wtL] at hw
  have HW := uh hw
  have R5 := uh r5
  have R8 := uh r8
  have R9 := uh r9
  have R10 := uh r10
  have R14 := uh r14
  have R15 := uh r15
  have R16 := uh r16
  obtain ⟨wa, hwa⟩ : ∃ wa, wa = (W.alloc (.cells cs.toArray 38)).alloc (.cells #[.int .i64 0, .int .i64 0, .bool false, .int .i64 0, .int .i64 0, .slice none 0 0, .int .i64 0, .int .i64 0, .slice none 0 0, .slice none 0 0, .slice none 0 0, .bool false, .bool false, .int .i64 0, .slice none 0 0, .slice none 0 0, .slice none 0 0, .int .i64 0] 38) := ⟨_, rfl⟩
  have HB : Hid (Below W.heap.size W wa) := by show Below _ _ _; rw [hwa]; exact blw_alloc (blw_alloc (Below.refl _ _) _) _
  have HX : Hid (WBox wa W.heap.size 38 [.int .i64 a0, .int .i64 a1, .bool a2, .int .i64 a3, .int .i64 a4, v5, .int .i64 a6, .int .i64 a7, v8, v9, v10, .bool a11, .bool a12, .int .i64 a13, v14, v15, v16, .int .i64 a17]) := by show WBox _ _ _ _; rw [hwa, ← hcs]; exact (WBox.new W cs _ _ rfl).later (blw_alloc (Below.refl _ _) _)
  have HRS : Hid (OwnBlk wa (W.heap.size + 1) 38 18) := by show OwnBlk _ _ _ _; rw [hwa]; exact OwnBlk.alloc_at3 _ _ _ _ _ rfl (by simp)
  have HWA : Hid (W.heap.size + 1 < wa.heap.size) := HRS.out.lt
  clear h hcs hw r5 r8 r9 r10 r14 r15 r16 t5 t8 t9 t10 t14 t15 t16
  go_enter Tryz.func18, Tryz.ntmps18
  go_upto_region 1 with fail
  rw [← hwa]
  clear hwa
  obtain ⟨va5, vc5, hva⟩ := R5.out.len0
  subst hva
  have hz := HX.out.own.lt
  have hfz := HX.out.own.frozen
  have gc : wa.rangeAt W.heap.size 3 [.int .i64 a3, .int .i64 a4, .slice va5 n5 vc5] := (rA_cut (rA_cut (x := [.int .i64 a0, .int .i64 a1, .bool a2]) (y := [.int .i64 a3, .int .i64 a4, .slice va5 n5 vc5] ++ [.int .i64 a6, .int .i64 a7, v8, v9, v10, .bool a11, .bool a12, .int .i64 a13, v14, v15, v16, .int .i64 a17]) HX.out.at_).2).1
  have HC := uh (l21DiskC [.i a3, .i a4, .row n5 e5] [.int .i64 a3, .int .i64 a4, .slice va5 n5 vc5] wa (rawRecDisk_mk a3 a4 (R5.out.later HB.out)) (by simp only [wtL]; have := HW.out; omega))
  go_wp2_with (refine wpList_load_mid rfl 34 _ rfl W.heap.size 3 rfl [.int .i64 a3, .int .i64 a4, .slice va5 n5 vc5] _ gc Tryz.underlying34 rfl (by kernel_rfl) ?_)
  refine HC.out.mono ?_
  rintro e x5 ⟨c', F5, rfl, rep', nd', fr', hb⟩
  obtain ⟨Fz, w5, hF, hc, rep⟩ := repRecDisk rep'
  subst hc
  rw [List.append_nil] at hF
  subst hF
  obtain ⟨wa5, wc5, hva⟩ := rep.raw.len0
  subst hva
  have nd := nd'
  have fr := fr'
  clear rep' nd' fr' HC
  obtain ⟨y5, hy⟩ : ∃ y, y = x5.setCells W.heap.size 3 [.int .i64 a3, .int .i64 a4, .slice wa5 n5 wc5] := ⟨_, rfl⟩
  have hth : x5.there W.heap.size 3 3 := uthere (HX.out.later hb).own _ _ (by show 3 + 3 ≤ 18; decide)
  have HS0 := uh HX.out.own.lt
  have HX1 := uh (HX.out.later hb)
  have HRS1 := uh (HRS.out.later hb)
  have HB1 := uh (blw_trans HB.out hb)
  have HX2 : Hid (WBox y5 W.heap.size 38 [.int .i64 a0, .int .i64 a1, .bool a2, .int .i64 a3, .int .i64 a4, .slice wa5 n5 wc5, .int .i64 a6, .int .i64 a7, v8, v9, v10, .bool a11, .bool a12, .int .i64 a13, v14, v15, v16, .int .i64 a17]) := by show WBox _ _ _ _; rw [hy]; exact WBox.puts (x := [.int .i64 a0, .int .i64 a1, .bool a2]) (y := [.int .i64 a3, .int .i64 a4, .slice va5 n5 vc5]) (z := [.int .i64 a6, .int .i64 a7, v8, v9, v10, .bool a11, .bool a12, .int .i64 a13, v14, v15, v16, .int .i64 a17]) HX1.out [.int .i64 a3, .int .i64 a4, .slice wa5 n5 wc5] rfl
  have HM : Hid (Marks (fun b => b = W.heap.size) x5 y5) := by show Marks _ _ _; rw [hy]; exact mks_scs (S := fun b => b = W.heap.size) rfl _ _ _
  have HRS2 : Hid (OwnBlk y5 (W.heap.size + 1) 38 18) := HM.out.own _ _ _ HRS1.out
  have HB2 : Hid (Below W.heap.size W y5) := HM.out.below (fun b e => by rw [e]; exact Nat.le_refl _) HB1.out
  have D5 := uh (rep.keep HM.out (fun b hb e => by have := fr b hb; have := HS0.out; omega))
  have HSZ5 : Hid (wa.heap.size ≤ x5.heap.size ∧ x5.heap.size ≤ y5.heap.size) := ⟨hb.size, HM.out.size⟩
  have FB5 : Hid (∀ b ∈ F5, wa.heap.size ≤ b ∧ b < x5.heap.size) := fun b hb => ⟨fr b hb, rep.lt b hb⟩
  have ND5 := uh nd
  have hqz := HX1.out.own.lt
  have hqf := HX1.out.own.frozen
  clear rep nd fr HX HRS HB
  go_upto_region 2 with (refine wpList_store_mid rfl 34 _ _ rfl W.heap.size 3 ([.int .i64 a3, .int .i64 a4, .slice wa5 n5 wc5] : List Value).toArray rfl rfl hth (by kernel_rfl) (by simp [Value.oneCell']) ?_)
  first | rw [← hy] | (simp only [List.toList_toArray]; rw [← hy])
  clear hy hqz hqf HX1 HRS1 HB1 hb HM HS0
  have HX := HX2
  have HRS := HRS2
  have HB := HB2
  clear HX2 HRS2 HB2
  clear gc hz hfz hth
  obtain ⟨va8, vc8, hva⟩ := R8.out.len0
  subst hva
  have hz := HX.out.own.lt
  have hfz := HX.out.own.frozen
  have gc : y5.rangeAt W.heap.size 6 [.int .i64 a6, .int .i64 a7, .slice va8 n8 vc8] := (rA_cut (rA_cut (x := [.int .i64 a0, .int .i64 a1, .bool a2, .int .i64 a3, .int .i64 a4, .slice wa5 n5 wc5]) (y := [.int .i64 a6, .int .i64 a7, .slice va8 n8 vc8] ++ [v9, v10, .bool a11, .bool a12, .int .i64 a13, v14, v15, v16, .int .i64 a17]) HX.out.at_).2).1
  have HC := uh (l21DiskC [.i a6, .i a7, .row n8 e8] [.int .i64 a6, .int .i64 a7, .slice va8 n8 vc8] y5 (rawRecDisk_mk a6 a7 (R8.out.later HB.out)) (by simp only [wtL]; have := HW.out; omega))
  go_wp2_with (refine wpList_load_mid rfl 34 _ rfl W.heap.size 6 rfl [.int .i64 a6, .int .i64 a7, .slice va8 n8 vc8] _ gc Tryz.underlying34 rfl (by kernel_rfl) ?_)
  refine HC.out.mono ?_
  rintro e x8 ⟨c', F8, rfl, rep', nd', fr', hb⟩
  obtain ⟨Fz, w8, hF, hc, rep⟩ := repRecDisk rep'
  subst hc
  rw [List.append_nil] at hF
  subst hF
  obtain ⟨wa8, wc8, hva⟩ := rep.raw.len0
  subst hva
  have nd := nd'
  have fr := fr'
  clear rep' nd' fr' HC
  obtain ⟨y8, hy⟩ : ∃ y, y = x8.setCells W.heap.size 6 [.int .i64 a6, .int .i64 a7, .slice wa8 n8 wc8] := ⟨_, rfl⟩
  have hth : x8.there W.heap.size 6 3 := uthere (HX.out.later hb).own _ _ (by show 6 + 3 ≤ 18; decide)
  have HS0 := uh HX.out.own.lt
  have HX1 := uh (HX.out.later hb)
  have HRS1 := uh (HRS.out.later hb)
  have HB1 := uh (blw_trans HB.out hb)
  have HX2 : Hid (WBox y8 W.heap.size 38 [.int .i64 a0, .int .i64 a1, .bool a2, .int .i64 a3, .int .i64 a4, .slice wa5 n5 wc5, .int .i64 a6, .int .i64 a7, .slice wa8 n8 wc8, v9, v10, .bool a11, .bool a12, .int .i64 a13, v14, v15, v16, .int .i64 a17]) := by show WBox _ _ _ _; rw [hy]; exact WBox.puts (x := [.int .i64 a0, .int .i64 a1, .bool a2, .int .i64 a3, .int .i64 a4, .slice wa5 n5 wc5]) (y := [.int .i64 a6, .int .i64 a7, .slice va8 n8 vc8]) (z := [v9, v10, .bool a11, .bool a12, .int .i64 a13, v14, v15, v16, .int .i64 a17]) HX1.out [.int .i64 a6, .int .i64 a7, .slice wa8 n8 wc8] rfl
  have HM : Hid (Marks (fun b => b = W.heap.size) x8 y8) := by show Marks _ _ _; rw [hy]; exact mks_scs (S := fun b => b = W.heap.size) rfl _ _ _
  have HRS2 : Hid (OwnBlk y8 (W.heap.size + 1) 38 18) := HM.out.own _ _ _ HRS1.out
  have HB2 : Hid (Below W.heap.size W y8) := HM.out.below (fun b e => by rw [e]; exact Nat.le_refl _) HB1.out
  have D8 := uh (rep.keep HM.out (fun b hb e => by have := fr b hb; have := HS0.out; omega))
  have HSZ8 : Hid (y5.heap.size ≤ x8.heap.size ∧ x8.heap.size ≤ y8.heap.size) := ⟨hb.size, HM.out.size⟩
  have FB8 : Hid (∀ b ∈ F8, y5.heap.size ≤ b ∧ b < x8.heap.size) := fun b hb => ⟨fr b hb, rep.lt b hb⟩
  have ND8 := uh nd
  replace D5 := uh ((D5.out.later hb).keep HM.out (fun b hb e => by have := FB5.out b hb; have := HWA.out; have := HSZ5.out; omega))
  have hqz := HX1.out.own.lt
  have hqf := HX1.out.own.frozen
  clear rep nd fr HX HRS HB
  go_upto_region 3 with (refine wpList_store_mid rfl 34 _ _ rfl W.heap.size 6 ([.int .i64 a6, .int .i64 a7, .slice wa8 n8 wc8] : List Value).toArray rfl rfl hth (by kernel_rfl) (by simp [Value.oneCell']) ?_)
  first | rw [← hy] | (simp only [List.toList_toArray]; rw [← hy])
  clear hy hqz hqf HX1 HRS1 HB1 hb HM HS0
  have HX := HX2
  have HRS := HRS2
  have HB := HB2
  clear HX2 HRS2 HB2
  clear gc hz hfz hth
  obtain ⟨va9, vc9, hva⟩ := R9.out.len0
  subst hva
  have hz := HX.out.own.lt
  have hfz := HX.out.own.frozen
  have gc := HX.out.get 9 _ rfl
  go_wp2_with fail
  refine (l22MessagesC n9 e9 (.slice va9 n9 vc9) y8 (R9.out.later HB.out) (by have := HW.out; omega)).mono ?_
  rintro e x9 ⟨w9, F9, rfl, rep, nd, fr, hb⟩
  obtain ⟨wa9, wc9, hva⟩ := rep.raw.len0
  subst hva
  obtain ⟨y9, hy⟩ : ∃ y, y = x9.setCell ⟨W.heap.size, 9, none⟩ (.slice wa9 n9 wc9) := ⟨_, rfl⟩
  obtain ⟨ux, eu⟩ := (HX.out.later hb).own.cell 9 (by show 9 < 18; decide)
  have HS0 := uh HX.out.own.lt
  have HX1 := uh (HX.out.later hb)
  have HRS1 := uh (HRS.out.later hb)
  have HB1 := uh (blw_trans HB.out hb)
  have HX2 : Hid (WBox y9 W.heap.size 38 [.int .i64 a0, .int .i64 a1, .bool a2, .int .i64 a3, .int .i64 a4, .slice wa5 n5 wc5, .int .i64 a6, .int .i64 a7, .slice wa8 n8 wc8, .slice wa9 n9 wc9, v10, .bool a11, .bool a12, .int .i64 a13, v14, v15, v16, .int .i64 a17]) := by show WBox _ _ _ _; rw [hy]; exact HX1.out.set 9 (.slice wa9 n9 wc9) (by show 9 < 18; decide)
  have HM : Hid (Marks (fun b => b = W.heap.size) x9 y9) := by show Marks _ _ _; rw [hy]; exact Marks.sc (S := fun b => b = W.heap.size) _ rfl _ _
  have HRS2 : Hid (OwnBlk y9 (W.heap.size + 1) 38 18) := HM.out.own _ _ _ HRS1.out
  have HB2 : Hid (Below W.heap.size W y9) := HM.out.below (fun b e => by rw [e]; exact Nat.le_refl _) HB1.out
  have D9 := uh (rep.keep HM.out (fun b hb e => by have := fr b hb; have := HS0.out; omega))
  have HSZ9 : Hid (y8.heap.size ≤ x9.heap.size ∧ x9.heap.size ≤ y9.heap.size) := ⟨hb.size, HM.out.size⟩
  have FB9 : Hid (∀ b ∈ F9, y8.heap.size ≤ b ∧ b < x9.heap.size) := fun b hb => ⟨fr b hb, rep.lt b hb⟩
  have ND9 := uh nd
  replace D5 := uh ((D5.out.later hb).keep HM.out (fun b hb e => by have := FB5.out b hb; have := HWA.out; have := HSZ5.out; have := HSZ8.out; omega))
  replace D8 := uh ((D8.out.later hb).keep HM.out (fun b hb e => by have := FB8.out b hb; have := HWA.out; have := HSZ5.out; have := HSZ8.out; omega))
  have hqz := HX1.out.own.lt
  have hqf := HX1.out.own.frozen
  clear rep nd fr HX HRS HB
  go_upto_region 4 with fail
  rw [← hy]
  clear hy hqz hqf HX1 HRS1 HB1 hb HM HS0
  have HX := HX2
  have HRS := HRS2
  have HB := HB2
  clear HX2 HRS2 HB2
  clear gc hz hfz eu
  obtain ⟨va10, vc10, hva⟩ := R10.out.len0
  subst hva
  have hz := HX.out.own.lt
  have hfz := HX.out.own.frozen
  have gc := HX.out.get 10 _ rfl
  obtain ⟨wb10, hwb⟩ : ∃ wb, wb = y9.alloc (.cells #[] 9) := ⟨_, rfl⟩
  have hbb : Below y9.heap.size y9 wb10 := by rw [hwb]; exact blw_alloc (Below.refl _ _) _
  obtain ⟨v', x10, xs, hrun, hg, hb1⟩ := app_copy (P := Tryz.prog) y9.heap.size 26 26 9 9 1 16 _ Tryz.cunderT1 Tryz.cinfoT1 rfl (by decide) (by decide) [.s] rfl (by simp [flatB]) wb10 (.slice (some ⟨y9.heap.size, 0, none⟩) 0 0) (Or.inr ⟨y9.heap.size, rfl, Nat.le_refl _, by rw [hwb]; exact heap_alloc_new _ _⟩) hbb.size n10 e10 (.slice va10 n10 vc10) (R10.out.later (blw_trans HB.out hbb)) (by have := HW.out; omega)
  have hb := blw_trans hbb hb1
  rw [hwb] at hrun
  clear hb1 hbb hwb
  obtain ⟨wa10, wc10, hva⟩ := hg.shape
  subst hva
  obtain ⟨F10, rep, nd, fr⟩ := hg.done
  clear hg
  obtain ⟨y10, hy⟩ : ∃ y, y = x10.setCell ⟨W.heap.size, 10, none⟩ (.slice wa10 n10 wc10) := ⟨_, rfl⟩
  obtain ⟨ux, eu⟩ := (HX.out.later hb).own.cell 10 (by show 10 < 18; decide)
  have HS0 := uh HX.out.own.lt
  have HX1 := uh (HX.out.later hb)
  have HRS1 := uh (HRS.out.later hb)
  have HB1 := uh (blw_trans HB.out hb)
  have HX2 : Hid (WBox y10 W.heap.size 38 [.int .i64 a0, .int .i64 a1, .bool a2, .int .i64 a3, .int .i64 a4, .slice wa5 n5 wc5, .int .i64 a6, .int .i64 a7, .slice wa8 n8 wc8, .slice wa9 n9 wc9, .slice wa10 n10 wc10, .bool a11, .bool a12, .int .i64 a13, v14, v15, v16, .int .i64 a17]) := by show WBox _ _ _ _; rw [hy]; exact HX1.out.set 10 (.slice wa10 n10 wc10) (by show 10 < 18; decide)
  have HM : Hid (Marks (fun b => b = W.heap.size) x10 y10) := by show Marks _ _ _; rw [hy]; exact Marks.sc (S := fun b => b = W.heap.size) _ rfl _ _
  have HRS2 : Hid (OwnBlk y10 (W.heap.size + 1) 38 18) := HM.out.own _ _ _ HRS1.out
  have HB2 : Hid (Below W.heap.size W y10) := HM.out.below (fun b e => by rw [e]; exact Nat.le_refl _) HB1.out
  have D10 := uh (rep.keep HM.out (fun b hb e => by have := fr b hb; have := HS0.out; omega))
  have HSZ10 : Hid (y9.heap.size ≤ x10.heap.size ∧ x10.heap.size ≤ y10.heap.size) := ⟨hb.size, HM.out.size⟩
  have FB10 : Hid (∀ b ∈ F10, y9.heap.size ≤ b ∧ b < x10.heap.size) := fun b hb => ⟨fr b hb, rep.lt b hb⟩
  have ND10 := uh nd
  replace D5 := uh ((D5.out.later hb).keep HM.out (fun b hb e => by have := FB5.out b hb; have := HWA.out; have := HSZ5.out; have := HSZ8.out; have := HSZ9.out; omega))
  replace D8 := uh ((D8.out.later hb).keep HM.out (fun b hb e => by have := FB8.out b hb; have := HWA.out; have := HSZ5.out; have := HSZ8.out; have := HSZ9.out; omega))
  replace D9 := uh ((D9.out.later hb).keep HM.out (fun b hb e => by have := FB9.out b hb; have := HWA.out; have := HSZ5.out; have := HSZ8.out; have := HSZ9.out; omega))
  have hqz := HX1.out.own.lt
  have hqf := HX1.out.own.frozen
  clear rep nd fr HX HRS HB
  go_upto_region 5 with (at_builtin; refine Go.Lib.wpList_append_run _ rfl _ _ 26 26 rfl _ _ rfl rfl _ x10 hrun ?_)
  rw [← hy]
  clear hy hqz hqf HX1 HRS1 HB1 hb HM HS0
  have HX := HX2
  have HRS := HRS2
  have HB := HB2
  clear HX2 HRS2 HB2
  clear gc hz hfz eu hrun
  obtain ⟨va14, vc14, hva⟩ := R14.out.len0
  subst hva
  have hz := HX.out.own.lt
  have hfz := HX.out.own.frozen
  have gc := HX.out.get 14 _ rfl
  obtain ⟨wb14, hwb⟩ : ∃ wb, wb = y10.alloc (.cells #[] 3) := ⟨_, rfl⟩
  have hbb : Below y10.heap.size y10 wb14 := by rw [hwb]; exact blw_alloc (Below.refl _ _) _
  obtain ⟨v', x14, xs, hrun, hg, hb1⟩ := app_copy (P := Tryz.prog) y10.heap.size 27 27 3 3 1 8 _ Tryz.cunderN1 Tryz.cinfoN1 rfl (by decide) (by decide) [.i] rfl (by simp [flatB]) wb14 (.slice (some ⟨y10.heap.size, 0, none⟩) 0 0) (Or.inr ⟨y10.heap.size, rfl, Nat.le_refl _, by rw [hwb]; exact heap_alloc_new _ _⟩) hbb.size n14 e14 (.slice va14 n14 vc14) (R14.out.later (blw_trans HB.out hbb)) (by have := HW.out; omega)
  have hb := blw_trans hbb hb1
  rw [hwb] at hrun
  clear hb1 hbb hwb
  obtain ⟨wa14, wc14, hva⟩ := hg.shape
  subst hva
  obtain ⟨F14, rep, nd, fr⟩ := hg.done
  clear hg
  obtain ⟨y14, hy⟩ : ∃ y, y = x14.setCell ⟨W.heap.size, 14, none⟩ (.slice wa14 n14 wc14) := ⟨_, rfl⟩
  obtain ⟨ux, eu⟩ := (HX.out.later hb).own.cell 14 (by show 14 < 18; decide)
  have HS0 := uh HX.out.own.lt
  have HX1 := uh (HX.out.later hb)
  have HRS1 := uh (HRS.out.later hb)
  have HB1 := uh (blw_trans HB.out hb)
  have HX2 : Hid (WBox y14 W.heap.size 38 [.int .i64 a0, .int .i64 a1, .bool a2, .int .i64 a3, .int .i64 a4, .slice wa5 n5 wc5, .int .i64 a6, .int .i64 a7, .slice wa8 n8 wc8, .slice wa9 n9 wc9, .slice wa10 n10 wc10, .bool a11, .bool a12, .int .i64 a13, .slice wa14 n14 wc14, v15, v16, .int .i64 a17]) := by show WBox _ _ _ _; rw [hy]; exact HX1.out.set 14 (.slice wa14 n14 wc14) (by show 14 < 18; decide)
  have HM : Hid (Marks (fun b => b = W.heap.size) x14 y14) := by show Marks _ _ _; rw [hy]; exact Marks.sc (S := fun b => b = W.heap.size) _ rfl _ _
  have HRS2 : Hid (OwnBlk y14 (W.heap.size + 1) 38 18) := HM.out.own _ _ _ HRS1.out
  have HB2 : Hid (Below W.heap.size W y14) := HM.out.below (fun b e => by rw [e]; exact Nat.le_refl _) HB1.out
  have D14 := uh (rep.keep HM.out (fun b hb e => by have := fr b hb; have := HS0.out; omega))
  have HSZ14 : Hid (y10.heap.size ≤ x14.heap.size ∧ x14.heap.size ≤ y14.heap.size) := ⟨hb.size, HM.out.size⟩
  have FB14 : Hid (∀ b ∈ F14, y10.heap.size ≤ b ∧ b < x14.heap.size) := fun b hb => ⟨fr b hb, rep.lt b hb⟩
  have ND14 := uh nd
  replace D5 := uh ((D5.out.later hb).keep HM.out (fun b hb e => by have := FB5.out b hb; have := HWA.out; have := HSZ5.out; have := HSZ8.out; have := HSZ9.out; have := HSZ10.out; omega))
  replace D8 := uh ((D8.out.later hb).keep HM.out (fun b hb e => by have := FB8.out b hb; have := HWA.out; have := HSZ5.out; have := HSZ8.out; have := HSZ9.out; have := HSZ10.out; omega))
  replace D9 := uh ((D9.out.later hb).keep HM.out (fun b hb e => by have := FB9.out b hb; have := HWA.out; have := HSZ5.out; have := HSZ8.out; have := HSZ9.out; have := HSZ10.out; omega))
  replace D10 := uh ((D10.out.later hb).keep HM.out (fun b hb e => by have := FB10.out b hb; have := HWA.out; have := HSZ5.out; have := HSZ8.out; have := HSZ9.out; have := HSZ10.out; omega))
  have hqz := HX1.out.own.lt
  have hqf := HX1.out.own.frozen
  clear rep nd fr HX HRS HB
  go_upto_region 6 with (at_builtin; refine Go.Lib.wpList_append_run _ rfl _ _ 27 27 rfl _ _ rfl rfl _ x14 hrun ?_)
  rw [← hy]
  clear hy hqz hqf HX1 HRS1 HB1 hb HM HS0
  have HX := HX2
  have HRS := HRS2
  have HB := HB2
  clear HX2 HRS2 HB2
  clear gc hz hfz eu hrun
  obtain ⟨va15, vc15, hva⟩ := R15.out.len0
  subst hva
  have hz := HX.out.own.lt
  have hfz := HX.out.own.frozen
  have gc := HX.out.get 15 _ rfl
  go_wp2_with fail
  refine (l21SlotsC n15 e15 (.slice va15 n15 vc15) y14 (R15.out.later HB.out) (by have := HW.out; omega)).mono ?_
  rintro e x15 ⟨w15, F15, rfl, rep, nd, fr, hb⟩
  obtain ⟨wa15, wc15, hva⟩ := rep.raw.len0
  subst hva
  obtain ⟨y15, hy⟩ : ∃ y, y = x15.setCell ⟨W.heap.size, 15, none⟩ (.slice wa15 n15 wc15) := ⟨_, rfl⟩
  obtain ⟨ux, eu⟩ := (HX.out.later hb).own.cell 15 (by show 15 < 18; decide)
  have HS0 := uh HX.out.own.lt
  have HX1 := uh (HX.out.later hb)
  have HRS1 := uh (HRS.out.later hb)
  have HB1 := uh (blw_trans HB.out hb)
  have HX2 : Hid (WBox y15 W.heap.size 38 [.int .i64 a0, .int .i64 a1, .bool a2, .int .i64 a3, .int .i64 a4, .slice wa5 n5 wc5, .int .i64 a6, .int .i64 a7, .slice wa8 n8 wc8, .slice wa9 n9 wc9, .slice wa10 n10 wc10, .bool a11, .bool a12, .int .i64 a13, .slice wa14 n14 wc14, .slice wa15 n15 wc15, v16, .int .i64 a17]) := by show WBox _ _ _ _; rw [hy]; exact HX1.out.set 15 (.slice wa15 n15 wc15) (by show 15 < 18; decide)
  have HM : Hid (Marks (fun b => b = W.heap.size) x15 y15) := by show Marks _ _ _; rw [hy]; exact Marks.sc (S := fun b => b = W.heap.size) _ rfl _ _
  have HRS2 : Hid (OwnBlk y15 (W.heap.size + 1) 38 18) := HM.out.own _ _ _ HRS1.out
  have HB2 : Hid (Below W.heap.size W y15) := HM.out.below (fun b e => by rw [e]; exact Nat.le_refl _) HB1.out
  have D15 := uh (rep.keep HM.out (fun b hb e => by have := fr b hb; have := HS0.out; omega))
  have HSZ15 : Hid (y14.heap.size ≤ x15.heap.size ∧ x15.heap.size ≤ y15.heap.size) := ⟨hb.size, HM.out.size⟩
  have FB15 : Hid (∀ b ∈ F15, y14.heap.size ≤ b ∧ b < x15.heap.size) := fun b hb => ⟨fr b hb, rep.lt b hb⟩
  have ND15 := uh nd
  replace D5 := uh ((D5.out.later hb).keep HM.out (fun b hb e => by have := FB5.out b hb; have := HWA.out; have := HSZ5.out; have := HSZ8.out; have := HSZ9.out; have := HSZ10.out; have := HSZ14.out; omega))
  replace D8 := uh ((D8.out.later hb).keep HM.out (fun b hb e => by have := FB8.out b hb; have := HWA.out; have := HSZ5.out; have := HSZ8.out; have := HSZ9.out; have := HSZ10.out; have := HSZ14.out; omega))
  replace D9 := uh ((D9.out.later hb).keep HM.out (fun b hb e => by have := FB9.out b hb; have := HWA.out; have := HSZ5.out; have := HSZ8.out; have := HSZ9.out; have := HSZ10.out; have := HSZ14.out; omega))
  replace D10 := uh ((D10.out.later hb).keep HM.out (fun b hb e => by have := FB10.out b hb; have := HWA.out; have := HSZ5.out; have := HSZ8.out; have := HSZ9.out; have := HSZ10.out; have := HSZ14.out; omega))
  replace D14 := uh ((D14.out.later hb).keep HM.out (fun b hb e => by have := FB14.out b hb; have := HWA.out; have := HSZ5.out; have := HSZ8.out; have := HSZ9.out; have := HSZ10.out; have := HSZ14.out; omega))
  have hqz := HX1.out.own.lt
  have hqf := HX1.out.own.frozen
  clear rep nd fr HX HRS HB
  go_upto_region 7 with fail
  rw [← hy]
  clear hy hqz hqf HX1 HRS1 HB1 hb HM HS0
  have HX := HX2
  have HRS := HRS2
  have HB := HB2
  clear HX2 HRS2 HB2
  clear gc hz hfz eu
  obtain ⟨i0, hi0, hzz⟩ := Option.map_eq_some_iff.1 Tryz.cinfoRecAck
  simp only [Prod.mk.injEq] at hzz
  obtain ⟨hz0, hz1, hz2⟩ := hzz
  obtain ⟨ws, hws⟩ : ∃ ws, ws = y15.alloc (.cells #[] 96) := ⟨_, rfl⟩
  have HBS : Hid (Below y15.heap.size y15 ws) := by show Below _ _ _; rw [hws]; exact blw_alloc (Below.refl _ _) _
  have HG : Hid (Gr ws y15.heap.size 96 shRecAck (.slice (some ⟨y15.heap.size, 0, none⟩) 0 0) 0 [] [] []) := Gr.emp _ (by rw [hws]; exact heap_alloc_new _ _) (Nat.le_refl _)
  have HTA : Hid (Typ (reps n16 shRecAck) e16) := by obtain ⟨_, _, _, q, t, _⟩ := R16.out.typ.c_r; injection q with e1 e2; injection e1 with e3 e4; subst e3; subst e4; exact t
  have hn16 : n16 ≤ 4194304 := by have := HW.out; omega
  obtain ⟨va16, vc16, hva⟩ := R16.out.len0
  subst hva
  go_upto_region 8 with fail
  rw [← hws]
  clear hws
  go_wp2
  go_loopw [3, 4] (fun o i wr => ∃ (q : Nat) (u : Value) (G : List Nat) (xs : List Value), q ≤ n16 ∧ i = .int .i64 (q : Int) ∧ o = u ∧ Gr wr y15.heap.size 96 shRecAck u q G (e16.take (q * 2)) xs ∧ Below y15.heap.size y15 wr) (fun _ i _ => n16 - (intOf i).toNat)
  case atStart => exact ⟨0, _, _, _, Nat.zero_le _, rfl, rfl, by rw [Nat.zero_mul, List.take_zero]; exact HG.out, HBS.out⟩
  case round =>
    obtain ⟨q, u, G, xs, hq, rfl, rfl, hG, hB⟩ := hrel
    have HGr := uh hG
    have HBr := uh hB
    clear hG hB
    obtain ⟨ua, uc, huu⟩ := HGr.out.shape
    subst huu
    have HXr := uh (HX.out.later HBr.out)
    have hz := HXr.out.own.lt
    have gc := HXr.out.get 16 _ rfl
    by_cases hlt : q < n16
    · rcases (R16.out.later (blw_trans HB.out HBr.out)).slice with ⟨e0, _⟩ | ⟨p, o, c2, hv, hp, _, vs, hr, hR⟩
      · omega
      injection hv with e1 _ e3
      subst e1
      subst e3
      obtain ⟨ve, hE, hg⟩ := hR.el hlt hr
      obtain ⟨d, hd⟩ : ∃ d, d = el 2 q e16 := ⟨_, rfl⟩
      have hE1 : Raw wr shRecAck d ve := by rw [hd]; exact hE
      have hg2 : wr.rangeAt p (o + q * 2) ve := hg
      have hwd : wtL d ≤ 4194304 := by rw [hd]; have := HW.out; have := wt_next 2 q e16; have := wt_le ((q + 1) * 2) e16; omega
      have HD := uh hd
      obtain ⟨f0, fn, fe, hde, _⟩ := typRecAck hE1.typ
      subst hde
      obtain ⟨fv, hcc, fr1⟩ := rawRecAck hE1
      subst hcc
      obtain ⟨fa, fc, hfv⟩ := fr1.len0
      subst hfv
      simp only [wtL] at hwd
      have hfn : fn ≤ 4194304 := by omega
      have k0 : wr.cell? ⟨p, o + q * 2, none⟩ = some (.int .i64 f0) := rA_get hg2 0 _ rfl
      have k1 : wr.cell? ⟨p, o + q * 2 + 1, none⟩ = some (.slice fa fn fc) := rA_get hg2 1 _ rfl
      have HF := uh fr1
      have HK := uh (And.intro k0 (And.intro k1 hp))
      have hq0 : (0 : Int) ≤ (q : Int) := by omega
      have hq3 : (q : Int) < (n16 : Int) := by omega
      clear hE hE1 hd hg hg2 hR hr fr1 k0 k1 hwd hp
      go_upto_region 11 with fail
      clear gc
      refine RY.region_fin wr (Below.refl _ _) (VAck W.heap.size p o q wr.heap.size (.slice ua q uc) (.slice (some ⟨p, o, none⟩) n16 vc16) (.slice fa fn fc) f0 fn fe) (VAck_mono _ _ _ _ _ _ _ _ _ _ _) (fun u W' => ∃ g cap G' xs', u = .slice (some ⟨g, 0, none⟩) (q + 1) cap ∧ Gr W' y15.heap.size 96 shRecAck u (q + 1) G' (e16.take ((q + 1) * 2)) xs' ∧ Below y15.heap.size y15 W') 17 8 56 3 (by kernel_rfl) (by kernel_rfl) (by kernel_rfl) (by kernel_rfl) (by kernel_rfl) rfl (by kernel_rfl) _ _ rfl rfl rfl rfl rfl (by kernel_rfl) ?_ ?_ ?_
      · intro i o' ho hin a X hX hk hd
        have xz := hX.size
        have x16 := (HXr.out.later hX).get 16 _ rfl
        have xbz := (HXr.out.later hX).own.lt
        have y0 : X.cell? ⟨p, o + q * 2, none⟩ = some (.int .i64 f0) := (hX.cell (p := ⟨p, o + q * 2, none⟩) HK.out.2.2).trans HK.out.1
        have y1 : X.cell? ⟨p, o + q * 2 + 1, none⟩ = some (.slice fa fn fc) := (hX.cell (p := ⟨p, o + q * 2 + 1, none⟩) HK.out.2.2).trans HK.out.2.1
        have xpz : p < X.heap.size := Nat.lt_of_lt_of_le HK.out.2.2 hX.size
        have t1 : a.tmps[1]?.getD undef = .pointer (some ⟨W.heap.size, 0, none⟩) := (RY.ev_tmp a 1).trans ((hk 1 (RY.late_spec (by kernel_rfl))).trans rfl)
        have t3 : a.tmps[3]?.getD undef = .slice ua q uc := (RY.ev_tmp a 3).trans ((hk 3 (RY.late_spec (by kernel_rfl))).trans rfl)
        have t4 : a.tmps[4]?.getD undef = .int .i64 (q : Int) := (RY.ev_tmp a 4).trans ((hk 4 (RY.late_spec (by kernel_rfl))).trans rfl)
        match i, ho with
        | 0, ho =>
          injection ho with ho; subst ho
          exact ⟨_, X, by simp [execOp, go_sem, t3], Below.refl _ _, rfl⟩
        | 1, ho =>
          injection ho with ho; subst ho
          exact ⟨_, X, by simp [execOp, go_sem, t1], Below.refl _ _, rfl⟩
        | 2, ho =>
          injection ho with ho; subst ho
          have e0 : a.tmps[40]?.getD undef = _ := (RY.ev_tmp a 40).trans (hd 1 _ 40 rfl rfl ⟨⟨1, .data⟩, by simp, rfl, rfl⟩ (by decide))
          exact ⟨_, X, by simp [execOp, go_sem, e0, x16], Below.refl _ _, rfl⟩
        | 3, ho =>
          injection ho with ho; subst ho
          exact ⟨_, X, by simp [execOp, go_sem, t4], Below.refl _ _, rfl⟩
        | 4, ho =>
          injection ho with ho; subst ho
          have e0 : a.tmps[41]?.getD undef = _ := (RY.ev_tmp a 41).trans (hd 2 _ 41 rfl rfl ⟨⟨2, .data⟩, by simp, rfl, rfl⟩ (by decide))
          have e1 : a.tmps[42]?.getD undef = _ := (RY.ev_tmp a 42).trans (hd 3 _ 42 rfl rfl ⟨⟨3, .data⟩, by simp, rfl, rfl⟩ (by decide))
          exact ⟨_, X, by simp [execOp, go_sem, e0, e1, hlt], Below.refl _ _, rfl⟩
        | 5, ho =>
          injection ho with ho; subst ho
          have e0 : a.tmps[43]?.getD undef = _ := (RY.ev_tmp a 43).trans (hd 4 _ 43 rfl rfl ⟨⟨4, .data⟩, by simp, rfl, rfl⟩ (by decide))
          exact ⟨_, X, by simp [execOp, go_sem, e0], Below.refl _ _, rfl⟩
        | 6, ho =>
          injection ho with ho; subst ho
          have e0 : a.tmps[44]?.getD undef = _ := (RY.ev_tmp a 44).trans (hd 5 _ 44 rfl rfl ⟨⟨5, .data⟩, by simp, rfl, rfl⟩ (by decide))
          exact ⟨_, X, by simp [execOp, go_sem, e0, y0], Below.refl _ _, rfl⟩
        | 7, ho =>
          injection ho with ho; subst ho
          exact ⟨_, X.alloc (.cells #[] 3), by simp [execOp, go_sem], blw_alloc (Below.refl _ _) _, ⟨X.heap.size, rfl, xz, heap_alloc_new X _⟩⟩
        | 8, ho =>
          injection ho with ho; subst ho
          exact ⟨_, X, by simp [execOp, go_sem, t1], Below.refl _ _, rfl⟩
        | 9, ho =>
          injection ho with ho; subst ho
          have e0 : a.tmps[47]?.getD undef = _ := (RY.ev_tmp a 47).trans (hd 8 _ 47 rfl rfl ⟨⟨8, .data⟩, by simp, rfl, rfl⟩ (by decide))
          exact ⟨_, X, by simp [execOp, go_sem, e0, x16], Below.refl _ _, rfl⟩
        | 10, ho =>
          injection ho with ho; subst ho
          exact ⟨_, X, by simp [execOp, go_sem, t4], Below.refl _ _, rfl⟩
        | 11, ho =>
          injection ho with ho; subst ho
          have e0 : a.tmps[48]?.getD undef = _ := (RY.ev_tmp a 48).trans (hd 9 _ 48 rfl rfl ⟨⟨9, .data⟩, by simp, rfl, rfl⟩ (by decide))
          have e1 : a.tmps[49]?.getD undef = _ := (RY.ev_tmp a 49).trans (hd 10 _ 49 rfl rfl ⟨⟨10, .data⟩, by simp, rfl, rfl⟩ (by decide))
          exact ⟨_, X, by simp [execOp, go_sem, e0, e1, hlt], Below.refl _ _, rfl⟩
        | 12, ho =>
          injection ho with ho; subst ho
          have e0 : a.tmps[50]?.getD undef = _ := (RY.ev_tmp a 50).trans (hd 11 _ 50 rfl rfl ⟨⟨11, .data⟩, by simp, rfl, rfl⟩ (by decide))
          exact ⟨_, X, by simp [execOp, go_sem, e0], Below.refl _ _, rfl⟩
        | 13, ho =>
          injection ho with ho; subst ho
          have e0 : a.tmps[51]?.getD undef = _ := (RY.ev_tmp a 51).trans (hd 12 _ 51 rfl rfl ⟨⟨12, .data⟩, by simp, rfl, rfl⟩ (by decide))
          exact ⟨_, X, by simp [execOp, go_sem, e0, y1], Below.refl _ _, rfl⟩
        | 14, ho =>
          injection ho with ho; subst ho
          obtain ⟨g, e0, hgl, hgg⟩ := hd 7 _ 46 rfl rfl ⟨⟨7, .data⟩, by simp, rfl, rfl⟩ (by decide)
          have e1 := hd 13 _ 52 rfl rfl ⟨⟨13, .data⟩, by simp, rfl, rfl⟩ (by decide)
          obtain ⟨v', X', xs', hr, hg, hb⟩ := app_copy (P := Tryz.prog) wr.heap.size 27 27 3 3 1 8 _ Tryz.cunderN1 Tryz.cinfoN1 rfl (by decide) (by decide) [.i] rfl (by simp [flatB]) X (.slice (some ⟨g, 0, none⟩) 0 0) (Or.inr ⟨g, rfl, hgl, hgg⟩) xz fn fe (.slice fa fn fc) (HF.out.later hX) hfn
          obtain ⟨wx, wc, hvx⟩ := hg.shape
          subst hvx
          exact ⟨_, X', uexec_append (.tmp 46) (.tmp 52) 27 rfl e0 e1 hr, hb, wx, wc, xs', rfl, hg⟩
        | 15, ho =>
          injection ho with ho; subst ho
          have e0 : a.tmps[45]?.getD undef = _ := (RY.ev_tmp a 45).trans (hd 6 _ 45 rfl rfl ⟨⟨6, .data⟩, by simp, rfl, rfl⟩ (by decide))
          obtain ⟨wx, wc, xs', e1, hg⟩ := hd 14 _ 53 rfl rfl ⟨⟨14, .data⟩, by simp, rfl, rfl⟩ (by decide)
          have e2 := (RY.ev_tmp a 53).trans e1
          rw [e1] at hg
          exact ⟨.agg #[.int .i64 f0, .slice wx fn wc], X, by simp [execOp, go_sem, e0, e2], Below.refl _ _, wx, wc, xs', rfl, hg⟩
        | 16, ho =>
          injection ho with ho; subst ho
          obtain ⟨wx, wc, xs', e1, hg⟩ := hd 15 _ 54 rfl rfl ⟨⟨15, .data⟩, by simp, rfl, rfl⟩ (by decide)
          have e2 := (RY.ev_tmp a 54).trans e1
          exact ⟨.slice (some ⟨X.heap.size, 0, none⟩) 1 1, X.alloc (.cells #[.int .i64 f0, .slice wx fn wc] 96), by simp [execOp, go_sem, e2], blw_alloc (Below.refl _ _) _, X.heap.size, wx, wc, xs', rfl, heap_alloc_new X _, hg.later (blw_alloc (Below.refl _ _) _)⟩
        | n + 17, ho => omega
      · intro a X hX hk hd
        have e0 := hd 0 _ 39 rfl rfl ⟨⟨0, .data⟩, by simp, rfl, rfl⟩ (by decide)
        obtain ⟨b, wx, wc, ys, e1, hbb, hg⟩ := hd 16 _ 55 rfl rfl ⟨⟨16, .data⟩, by simp, rfl, rfl⟩ (by decide)
        obtain ⟨F, rr, nd, fr⟩ := hg.done
        have hrep : Rep X false shRecAck (F ++ []) [.i f0, .row fn fe] [.int .i64 f0, .slice wx fn wc] := repRecAck_mk f0 rr
        have hGX := HGr.out.later hX
        obtain ⟨g, cap, X', hrun, hown, hgrow, hgg, _⟩ := run_append_lies (P := Tryz.prog) (w := X) 36 36 y15.heap.size 96 i0 _ 2 32 Tryz.cunderRecAck hi0 hz0 hz1 hz2 rfl (by decide) (.slice ua q uc) q xs hGX.row ⟨b, 0, none⟩ 1 1 [.int .i64 f0, .slice wx fn wc] rfl (fun j x hx => by rw [Addr.add_mid, Nat.zero_add]; simp only [World.cell?, hbb]; simpa using hx) (fun x hx => hrep.raw.one x hx) (by decide) (by unfold maxLen; omega) (by omega) (Nat.le_trans HBr.out.size hX.size) X.heap.size rfl
        refine ⟨_, X', uexec_append (.tmp 39) (.tmp 55) 36 rfl e0 e1 hrun, g, cap, G ++ (F ++ []), xs ++ [.int .i64 f0, .slice wx fn wc], rfl, ?_, ?_⟩
        · have := HGr.out.push (F := F ++ []) hX hrep (by rw [List.append_nil]; exact nd) (fun b hb => by rw [List.append_nil] at hb; exact fr b hb) HBr.out.size hown hgrow (Nat.le_refl _) hgg
          rw [Nat.succ_mul, el_take, ← HD.out]
          exact this
        · exact blw_grown (blw_trans HBr.out hX) hgrow (fun b hb => (owns_blk_lt hGX.row hb).1)
      · rintro vals X ⟨g, cap, G', xs', e1, hg, hb⟩ e2
        simp only [RY.putAll, Act.put, List.setIfInBounds_toArray, List.set_cons_zero, List.set_cons_succ]
        rw [e2, e1]
        rw [e1] at hg
        generalize vals 39 = s39
        generalize vals 40 = s40
        generalize vals 41 = s41
        generalize vals 42 = s42
        generalize vals 43 = s43
        generalize vals 44 = s44
        generalize vals 45 = s45
        generalize vals 46 = s46
        generalize vals 47 = s47
        generalize vals 48 = s48
        generalize vals 49 = s49
        generalize vals 50 = s50
        generalize vals 51 = s51
        generalize vals 52 = s52
        generalize vals 53 = s53
        generalize vals 54 = s54
        generalize vals 55 = s55
        have HN := uh (And.intro hg hb)
        clear hg hb e1 e2 HGr HBr HXr hz HK HF
        go_wp2
        go_roundw
        case rel => exact ⟨q + 1, _, _, _, by omega, by go_num, rfl, HN.out.1, HN.out.2⟩
        case measure => simp [intOf]; omega
    · obtain rfl : q = n16 := by omega
      have el_ : e16.length = q * 2 := HTA.out.rows
      rw [← el_, List.take_length] at HGr
      obtain ⟨F16, rep, nd, fr⟩ := HGr.out.done
      have hb := HBr.out
      clear el_ gc hz HG HBS HXr HGr HBr
      have hz := HX.out.own.lt
      obtain ⟨x16, hx16⟩ : ∃ x, x = wr := ⟨_, rfl⟩
      rw [← hx16] at rep hb ⊢
      clear hx16
      have gc := (HX.out.later hb).get 16 _ rfl
      obtain ⟨y16, hy⟩ : ∃ y, y = x16.setCell ⟨W.heap.size, 16, none⟩ (.slice ua q uc) := ⟨_, rfl⟩
      obtain ⟨ux, eu⟩ := (HX.out.later hb).own.cell 16 (by show 16 < 18; decide)
      have HS0 := uh HX.out.own.lt
      have HX1 := uh (HX.out.later hb)
      have HRS1 := uh (HRS.out.later hb)
      have HB1 := uh (blw_trans HB.out hb)
      have HX2 : Hid (WBox y16 W.heap.size 38 [.int .i64 a0, .int .i64 a1, .bool a2, .int .i64 a3, .int .i64 a4, .slice wa5 n5 wc5, .int .i64 a6, .int .i64 a7, .slice wa8 n8 wc8, .slice wa9 n9 wc9, .slice wa10 n10 wc10, .bool a11, .bool a12, .int .i64 a13, .slice wa14 n14 wc14, .slice wa15 n15 wc15, .slice ua q uc, .int .i64 a17]) := by show WBox _ _ _ _; rw [hy]; exact HX1.out.set 16 (.slice ua q uc) (by show 16 < 18; decide)
      have HM : Hid (Marks (fun b => b = W.heap.size) x16 y16) := by show Marks _ _ _; rw [hy]; exact Marks.sc (S := fun b => b = W.heap.size) _ rfl _ _
      have HRS2 : Hid (OwnBlk y16 (W.heap.size + 1) 38 18) := HM.out.own _ _ _ HRS1.out
      have HB2 : Hid (Below W.heap.size W y16) := HM.out.below (fun b e => by rw [e]; exact Nat.le_refl _) HB1.out
      have D16 := uh (rep.keep HM.out (fun b hb e => by have := fr b hb; have := HS0.out; omega))
      have HSZ16 : Hid (y15.heap.size ≤ x16.heap.size ∧ x16.heap.size ≤ y16.heap.size) := ⟨hb.size, HM.out.size⟩
      have FB16 : Hid (∀ b ∈ F16, y15.heap.size ≤ b ∧ b < x16.heap.size) := fun b hb => ⟨fr b hb, rep.lt b hb⟩
      have ND16 := uh nd
      replace D5 := uh ((D5.out.later hb).keep HM.out (fun b hb e => by have := FB5.out b hb; have := HWA.out; have := HSZ5.out; have := HSZ8.out; have := HSZ9.out; have := HSZ10.out; have := HSZ14.out; have := HSZ15.out; omega))
      replace D8 := uh ((D8.out.later hb).keep HM.out (fun b hb e => by have := FB8.out b hb; have := HWA.out; have := HSZ5.out; have := HSZ8.out; have := HSZ9.out; have := HSZ10.out; have := HSZ14.out; have := HSZ15.out; omega))
      replace D9 := uh ((D9.out.later hb).keep HM.out (fun b hb e => by have := FB9.out b hb; have := HWA.out; have := HSZ5.out; have := HSZ8.out; have := HSZ9.out; have := HSZ10.out; have := HSZ14.out; have := HSZ15.out; omega))
      replace D10 := uh ((D10.out.later hb).keep HM.out (fun b hb e => by have := FB10.out b hb; have := HWA.out; have := HSZ5.out; have := HSZ8.out; have := HSZ9.out; have := HSZ10.out; have := HSZ14.out; have := HSZ15.out; omega))
      replace D14 := uh ((D14.out.later hb).keep HM.out (fun b hb e => by have := FB14.out b hb; have := HWA.out; have := HSZ5.out; have := HSZ8.out; have := HSZ9.out; have := HSZ10.out; have := HSZ14.out; have := HSZ15.out; omega))
      replace D15 := uh ((D15.out.later hb).keep HM.out (fun b hb e => by have := FB15.out b hb; have := HWA.out; have := HSZ5.out; have := HSZ8.out; have := HSZ9.out; have := HSZ10.out; have := HSZ14.out; have := HSZ15.out; omega))
      have hqz := HX1.out.own.lt
      have hqf := HX1.out.own.frozen
      clear rep nd fr HX HRS HB
      go_upto_region 13 with fail
      rw [← hy]
      clear hy hqz hqf HX1 HRS1 HB1 hb HM HS0
      have HX := HX2
      have HRS := HRS2
      have HB := HB2
      clear HX2 HRS2 HB2
      clear hz eu gc
      have hth : y16.there (W.heap.size + 1) 0 18 := uthere HRS.out _ _ (by omega)
      obtain ⟨we, hwe⟩ : ∃ we, we = y16.setCells (W.heap.size + 1) 0 [.int .i64 a0, .int .i64 a1, .bool a2, .int .i64 a3, .int .i64 a4, .slice wa5 n5 wc5, .int .i64 a6, .int .i64 a7, .slice wa8 n8 wc8, .slice wa9 n9 wc9, .slice wa10 n10 wc10, .bool a11, .bool a12, .int .i64 a13, .slice wa14 n14 wc14, .slice wa15 n15 wc15, .slice ua q uc, .int .i64 a17] := ⟨_, rfl⟩
      have hrt : we.rangeAt (W.heap.size + 1) 0 [.int .i64 a0, .int .i64 a1, .bool a2, .int .i64 a3, .int .i64 a4, .slice wa5 n5 wc5, .int .i64 a6, .int .i64 a7, .slice wa8 n8 wc8, .slice wa9 n9 wc9, .slice wa10 n10 wc10, .bool a11, .bool a12, .int .i64 a13, .slice wa14 n14 wc14, .slice wa15 n15 wc15, .slice ua q uc, .int .i64 a17] := by rw [hwe]; exact World.rangeAt_setCells_same _ _ _ _ hth
      have HBE : Hid (Below W.heap.size W we) := by show Below _ _ _; rw [hwe]; exact blw_scs (by omega) _ _ _ HB.out
      have HM : Hid (Marks (fun b => b = W.heap.size + 1) y16 we) := by show Marks _ _ _; rw [hwe]; exact mks_scs (S := fun b => b = W.heap.size + 1) rfl _ _ _
      replace D5 := uh (D5.out.keep HM.out (fun b hb e => by have := FB5.out b hb; have := HWA.out; have := HSZ5.out; have := HSZ8.out; have := HSZ9.out; have := HSZ10.out; have := HSZ14.out; have := HSZ15.out; have := HSZ16.out; omega))
      replace D8 := uh (D8.out.keep HM.out (fun b hb e => by have := FB8.out b hb; have := HWA.out; have := HSZ5.out; have := HSZ8.out; have := HSZ9.out; have := HSZ10.out; have := HSZ14.out; have := HSZ15.out; have := HSZ16.out; omega))
      replace D9 := uh (D9.out.keep HM.out (fun b hb e => by have := FB9.out b hb; have := HWA.out; have := HSZ5.out; have := HSZ8.out; have := HSZ9.out; have := HSZ10.out; have := HSZ14.out; have := HSZ15.out; have := HSZ16.out; omega))
      replace D10 := uh (D10.out.keep HM.out (fun b hb e => by have := FB10.out b hb; have := HWA.out; have := HSZ5.out; have := HSZ8.out; have := HSZ9.out; have := HSZ10.out; have := HSZ14.out; have := HSZ15.out; have := HSZ16.out; omega))
      replace D14 := uh (D14.out.keep HM.out (fun b hb e => by have := FB14.out b hb; have := HWA.out; have := HSZ5.out; have := HSZ8.out; have := HSZ9.out; have := HSZ10.out; have := HSZ14.out; have := HSZ15.out; have := HSZ16.out; omega))
      replace D15 := uh (D15.out.keep HM.out (fun b hb e => by have := FB15.out b hb; have := HWA.out; have := HSZ5.out; have := HSZ8.out; have := HSZ9.out; have := HSZ10.out; have := HSZ14.out; have := HSZ15.out; have := HSZ16.out; omega))
      replace D16 := uh (D16.out.keep HM.out (fun b hb e => by have := FB16.out b hb; have := HWA.out; have := HSZ5.out; have := HSZ8.out; have := HSZ9.out; have := HSZ10.out; have := HSZ14.out; have := HSZ15.out; have := HSZ16.out; omega))
      refine wp_region_lit ?_
      refine wpList_load_mid rfl 38 _ rfl W.heap.size 0 rfl [.int .i64 a0, .int .i64 a1, .bool a2, .int .i64 a3, .int .i64 a4, .slice wa5 n5 wc5, .int .i64 a6, .int .i64 a7, .slice wa8 n8 wc8, .slice wa9 n9 wc9, .slice wa10 n10 wc10, .bool a11, .bool a12, .int .i64 a13, .slice wa14 n14 wc14, .slice wa15 n15 wc15, .slice ua q uc, .int .i64 a17] _ HX.out.at_ Tryz.underlying38 rfl (by kernel_rfl) ?_
      refine wpList_store_mid rfl 38 _ _ rfl (W.heap.size + 1) 0 ([.int .i64 a0, .int .i64 a1, .bool a2, .int .i64 a3, .int .i64 a4, .slice wa5 n5 wc5, .int .i64 a6, .int .i64 a7, .slice wa8 n8 wc8, .slice wa9 n9 wc9, .slice wa10 n10 wc10, .bool a11, .bool a12, .int .i64 a13, .slice wa14 n14 wc14, .slice wa15 n15 wc15, .slice ua q uc, .int .i64 a17] : List Value).toArray rfl rfl hth (by kernel_rfl) (by simp [Value.oneCell']) ?_
      simp only [Act.put, List.setIfInBounds_toArray, List.set_cons_zero, List.set_cons_succ]
      rw [← hwe]
      clear hwe hth
      go_wp2
      refine bodyPost_ret (v := .agg ([.int .i64 a0, .int .i64 a1, .bool a2, .int .i64 a3, .int .i64 a4, .slice wa5 n5 wc5, .int .i64 a6, .int .i64 a7, .slice wa8 n8 wc8, .slice wa9 n9 wc9, .slice wa10 n10 wc10, .bool a11, .bool a12, .int .i64 a13, .slice wa14 n14 wc14, .slice wa15 n15 wc15, .slice ua q uc, .int .i64 a17] : List Value).toArray) (by simp [results, Tryz.results18, asAddr, run_loadVar_mid (P := Tryz.prog) _ _ _ 38 [.int .i64 a0, .int .i64 a1, .bool a2, .int .i64 a3, .int .i64 a4, .slice wa5 n5 wc5, .int .i64 a6, .int .i64 a7, .slice wa8 n8 wc8, .slice wa9 n9 wc9, .slice wa10 n10 wc10, .bool a11, .bool a12, .int .i64 a13, .slice wa14 n14 wc14, .slice wa15 n15 wc15, .slice ua q uc, .int .i64 a17] _ hrt Tryz.underlying38 rfl (by kernel_rfl)]) rfl ⟨[.int .i64 a0, .int .i64 a1, .bool a2, .int .i64 a3, .int .i64 a4, .slice wa5 n5 wc5, .int .i64 a6, .int .i64 a7, .slice wa8 n8 wc8, .slice wa9 n9 wc9, .slice wa10 n10 wc10, .bool a11, .bool a12, .int .i64 a13, .slice wa14 n14 wc14, .slice wa15 n15 wc15, .slice ua q uc, .int .i64 a17], F5 ++ (F8 ++ (F9 ++ (F10 ++ (F14 ++ (F15 ++ (F16 ++ [])))))), rfl, ?_, ?_, ?_, HBE.out⟩
      · exact repRecorder_mk _ _ _ _ _ D5.out _ _ D8.out D9.out D10.out _ _ _ D14.out D15.out D16.out _
      · exact (nd_join (m := x5.heap.size) ND5.out (nd_join (m := x8.heap.size) ND8.out (nd_join (m := x9.heap.size) ND9.out (nd_join (m := x10.heap.size) ND10.out (nd_join (m := x14.heap.size) ND14.out (nd_join (m := x15.heap.size) ND15.out (by rw [List.append_nil]; exact ND16.out) (fun b hb => (FB15.out b hb).2) (lo_join (fun b hb => by have := FB16.out b hb; have := HWA.out; have := HSZ5.out; have := HSZ8.out; have := HSZ9.out; have := HSZ10.out; have := HSZ14.out; have := HSZ15.out; have := HSZ16.out; omega) (by simp))) (fun b hb => (FB14.out b hb).2) (lo_join (fun b hb => by have := FB15.out b hb; have := HWA.out; have := HSZ5.out; have := HSZ8.out; have := HSZ9.out; have := HSZ10.out; have := HSZ14.out; have := HSZ15.out; have := HSZ16.out; omega) (lo_join (fun b hb => by have := FB16.out b hb; have := HWA.out; have := HSZ5.out; have := HSZ8.out; have := HSZ9.out; have := HSZ10.out; have := HSZ14.out; have := HSZ15.out; have := HSZ16.out; omega) (by simp)))) (fun b hb => (FB10.out b hb).2) (lo_join (fun b hb => by have := FB14.out b hb; have := HWA.out; have := HSZ5.out; have := HSZ8.out; have := HSZ9.out; have := HSZ10.out; have := HSZ14.out; have := HSZ15.out; have := HSZ16.out; omega) (lo_join (fun b hb => by have := FB15.out b hb; have := HWA.out; have := HSZ5.out; have := HSZ8.out; have := HSZ9.out; have := HSZ10.out; have := HSZ14.out; have := HSZ15.out; have := HSZ16.out; omega) (lo_join (fun b hb => by have := FB16.out b hb; have := HWA.out; have := HSZ5.out; have := HSZ8.out; have := HSZ9.out; have := HSZ10.out; have := HSZ14.out; have := HSZ15.out; have := HSZ16.out; omega) (by simp))))) (fun b hb => (FB9.out b hb).2) (lo_join (fun b hb => by have := FB10.out b hb; have := HWA.out; have := HSZ5.out; have := HSZ8.out; have := HSZ9.out; have := HSZ10.out; have := HSZ14.out; have := HSZ15.out; have := HSZ16.out; omega) (lo_join (fun b hb => by have := FB14.out b hb; have := HWA.out; have := HSZ5.out; have := HSZ8.out; have := HSZ9.out; have := HSZ10.out; have := HSZ14.out; have := HSZ15.out; have := HSZ16.out; omega) (lo_join (fun b hb => by have := FB15.out b hb; have := HWA.out; have := HSZ5.out; have := HSZ8.out; have := HSZ9.out; have := HSZ10.out; have := HSZ14.out; have := HSZ15.out; have := HSZ16.out; omega) (lo_join (fun b hb => by have := FB16.out b hb; have := HWA.out; have := HSZ5.out; have := HSZ8.out; have := HSZ9.out; have := HSZ10.out; have := HSZ14.out; have := HSZ15.out; have := HSZ16.out; omega) (by simp)))))) (fun b hb => (FB8.out b hb).2) (lo_join (fun b hb => by have := FB9.out b hb; have := HWA.out; have := HSZ5.out; have := HSZ8.out; have := HSZ9.out; have := HSZ10.out; have := HSZ14.out; have := HSZ15.out; have := HSZ16.out; omega) (lo_join (fun b hb => by have := FB10.out b hb; have := HWA.out; have := HSZ5.out; have := HSZ8.out; have := HSZ9.out; have := HSZ10.out; have := HSZ14.out; have := HSZ15.out; have := HSZ16.out; omega) (lo_join (fun b hb => by have := FB14.out b hb; have := HWA.out; have := HSZ5.out; have := HSZ8.out; have := HSZ9.out; have := HSZ10.out; have := HSZ14.out; have := HSZ15.out; have := HSZ16.out; omega) (lo_join (fun b hb => by have := FB15.out b hb; have := HWA.out; have := HSZ5.out; have := HSZ8.out; have := HSZ9.out; have := HSZ10.out; have := HSZ14.out; have := HSZ15.out; have := HSZ16.out; omega) (lo_join (fun b hb => by have := FB16.out b hb; have := HWA.out; have := HSZ5.out; have := HSZ8.out; have := HSZ9.out; have := HSZ10.out; have := HSZ14.out; have := HSZ15.out; have := HSZ16.out; omega) (by simp))))))) (fun b hb => (FB5.out b hb).2) (lo_join (fun b hb => by have := FB8.out b hb; have := HWA.out; have := HSZ5.out; have := HSZ8.out; have := HSZ9.out; have := HSZ10.out; have := HSZ14.out; have := HSZ15.out; have := HSZ16.out; omega) (lo_join (fun b hb => by have := FB9.out b hb; have := HWA.out; have := HSZ5.out; have := HSZ8.out; have := HSZ9.out; have := HSZ10.out; have := HSZ14.out; have := HSZ15.out; have := HSZ16.out; omega) (lo_join (fun b hb => by have := FB10.out b hb; have := HWA.out; have := HSZ5.out; have := HSZ8.out; have := HSZ9.out; have := HSZ10.out; have := HSZ14.out; have := HSZ15.out; have := HSZ16.out; omega) (lo_join (fun b hb => by have := FB14.out b hb; have := HWA.out; have := HSZ5.out; have := HSZ8.out; have := HSZ9.out; have := HSZ10.out; have := HSZ14.out; have := HSZ15.out; have := HSZ16.out; omega) (lo_join (fun b hb => by have := FB15.out b hb; have := HWA.out; have := HSZ5.out; have := HSZ8.out; have := HSZ9.out; have := HSZ10.out; have := HSZ14.out; have := HSZ15.out; have := HSZ16.out; omega) (lo_join (fun b hb => by have := FB16.out b hb; have := HWA.out; have := HSZ5.out; have := HSZ8.out; have := HSZ9.out; have := HSZ10.out; have := HSZ14.out; have := HSZ15.out; have := HSZ16.out; omega) (by simp))))))))
      · exact (lo_join (fun b hb => by have := FB5.out b hb; have := HWA.out; have := HSZ5.out; have := HSZ8.out; have := HSZ9.out; have := HSZ10.out; have := HSZ14.out; have := HSZ15.out; have := HSZ16.out; omega) (lo_join (fun b hb => by have := FB8.out b hb; have := HWA.out; have := HSZ5.out; have := HSZ8.out; have := HSZ9.out; have := HSZ10.out; have := HSZ14.out; have := HSZ15.out; have := HSZ16.out; omega) (lo_join (fun b hb => by have := FB9.out b hb; have := HWA.out; have := HSZ5.out; have := HSZ8.out; have := HSZ9.out; have := HSZ10.out; have := HSZ14.out; have := HSZ15.out; have := HSZ16.out; omega) (lo_join (fun b hb => by have := FB10.out b hb; have := HWA.out; have := HSZ5.out; have := HSZ8.out; have := HSZ9.out; have := HSZ10.out; have := HSZ14.out; have := HSZ15.out; have := HSZ16.out; omega) (lo_join (fun b hb => by have := FB14.out b hb; have := HWA.out; have := HSZ5.out; have := HSZ8.out; have := HSZ9.out; have := HSZ10.out; have := HSZ14.out; have := HSZ15.out; have := HSZ16.out; omega) (lo_join (fun b hb => by have := FB15.out b hb; have := HWA.out; have := HSZ5.out; have := HSZ8.out; have := HSZ9.out; have := HSZ10.out; have := HSZ14.out; have := HSZ15.out; have := HSZ16.out; omega) (lo_join (fun b hb => by have := FB16.out b hb; have := HWA.out; have := HSZ5.out; have := HSZ8.out; have := HSZ9.out; have := HSZ10.out; have := HSZ14.out; have := HSZ15.out; have := HSZ16.out; omega) (by simp))))))))
end Go.Proofs.YtnifdpjmpbocnaaGreat
