/-
  Sheets: a text taken as a sheet: by the specification.
-/
import Derived.Test.YtdllbcafbfkngaaGreatDoorEPx
import Derived.Test.YtdllbcafbfkngaaGreatDoorECy
import Derived.Test.YtdllbcafbfkngaaGreatDoorEWe
import Derived.Test.YtdllbcafbfkngaaGreatDoorEKk
namespace Go.Proofs.YtdllbcafbfkngaaGreatDoor
open Go.RowKit Go.Deep

/-- A function's answer: a sheet in memory of its own, and a fault. -/
def AnsF (o : List Pl.Bl × Nat × Nat) (W : World) (e : Ending) (w' : World) : Prop := ∃ c F, e = .returned (.tuple #[.agg c.toArray, .agg #[.int .i64 (o.2.1 : Nat), .int .i64 (o.2.2 : Nat)]]) ∧ Rep w' false shSheet F [blsD o.1] c ∧ F.Nodup ∧ (∀ b ∈ F, W.heap.size ≤ b) ∧ Below W.heap.size W w'
theorem Dat.away {S T : Nat → Prop} {B lo : Nat} {W W' : World} {sh : List Sh} {A : List Dt} {c : List Value} (h : Dat S B lo W sh A c) (hb : Marks T W W') (hT : ∀ b, T b → ¬ S b ∧ b < lo) : Dat S B lo W' sh A c := by
  obtain ⟨F, r, f⟩ := h
  refine ⟨F, r.keep hb fun b hb' e => ?_, f⟩
  have := hT b e
  rcases f b hb' with q | q
  · exact this.1 q.1
  · omega
/-- While a text is read. -/
structure Pz (w : World) (b0 pb : Nat) (ls : List ByteArray) (lv : Value) (st : Pl.PS) (xv cv : Value) (W : World) : Prop where
  bel : Below w.heap.size w W
  res : WBox W b0 24 [.slice none 0 0]
  flt : WBox W (b0 + 1) 26 [.int .i64 0, .int .i64 0]
  s : WBox W (b0 + 2) 24 [xv]
  b : WBox W pb 37 [.string st.cur.kind, .string st.cur.name, cv]
  ln : Dat (fun b => b0 + 2 < b) pb (pb + 1) W shTxs [.row ls.length (txD ls)] [lv]
  sd : Dat (fun _ => True) b0 (pb + 1) W shBls [blsD st.acc] [xv]
  bd : Dat (fun _ => True) b0 (pb + 1) W shLns [lnsD st.cur.lines] [cv]
theorem Pz.later {w W W' : World} {b0 pb : Nat} {ls : List ByteArray} {lv : Value} {st : Pl.PS} {xv cv : Value} (h : Pz w b0 pb ls lv st xv cv W) (hb : Below W.heap.size W W') : Pz w b0 pb ls lv st xv cv W' :=
  ⟨blw_trans h.bel hb, h.res.later hb, h.flt.later hb, h.s.later hb, h.b.later hb, h.ln.later hb, h.sd.later hb, h.bd.later hb⟩
theorem Pz.putS {w W : World} {b0 pb : Nat} {ls : List ByteArray} {lv : Value} {st : Pl.PS} {xv cv yv : Value} {acc : List Pl.Bl} {o : Bool} (h : Pz w b0 pb ls lv st xv cv W) (hz : b0 = w.heap.size) (hp : b0 + 3 ≤ pb) (hd : Dat (fun _ => True) b0 (pb + 1) W shBls [blsD acc] [yv]) : Pz w b0 pb ls lv ⟨acc, st.cur, o⟩ yv cv (W.setCells (b0 + 2) 0 [yv]) := by
  have hm : Marks (fun b => b = b0 + 2) W (W.setCells (b0 + 2) 0 [yv]) := mks_scs (S := fun b => b = b0 + 2) rfl _ _ _
  exact ⟨hm.below (fun b e => by omega) h.bel, h.res.mks hm (by omega), h.flt.mks hm (by omega), ⟨own_scs _ _ _ h.s.own, World.rangeAt_setCells_same _ _ _ _ (uthere h.s.own _ _ (by simp))⟩, h.b.mks hm (by omega), h.ln.away hm (fun b e => by omega), hd.keep hm (fun b e => by omega), h.bd.keep hm (fun b e => by omega)⟩
theorem Pz.putB {w W : World} {b0 pb : Nat} {ls : List ByteArray} {lv : Value} {st : Pl.PS} {xv cv yv : Value} {x : Pl.Bl} {o : Bool} (h : Pz w b0 pb ls lv st xv cv W) (hz : b0 = w.heap.size) (hp : b0 + 3 ≤ pb) (hd : Dat (fun _ => True) b0 (pb + 1) W shLns [lnsD x.lines] [yv]) : Pz w b0 pb ls lv ⟨st.acc, x, o⟩ xv yv (W.setCells pb 0 [.string x.kind, .string x.name, yv]) := by
  have hm : Marks (fun b => b = pb) W (W.setCells pb 0 [.string x.kind, .string x.name, yv]) := mks_scs (S := fun b => b = pb) rfl _ _ _
  exact ⟨hm.below (fun b e => by omega) h.bel, h.res.mks hm (by omega), h.flt.mks hm (by omega), h.s.mks hm (by omega), ⟨own_scs _ _ _ h.b.own, World.rangeAt_setCells_same _ _ _ _ (uthere h.b.own _ _ (by simp))⟩, h.ln.keep hm (fun b e => by omega), h.sd.keep hm (fun b e => by omega), hd.keep hm (fun b e => by omega)⟩
theorem cutD_none {l : List UInt8} (h : Pl.cutL l 0 = none) : cutD l = [.row 0 [], .b true] := by unfold cutD; rw [h]
theorem cutD_some {l : List UInt8} {ws : List ByteArray} (h : Pl.cutL l 0 = some ws) : cutD l = [.row ws.length (txD ws), .b false] := by unfold cutD; rw [h]
theorem Pl.stepC_none {st : Pl.PS} {x : ByteArray} (h : Pl.cutL x.data.toList 0 = none) : Pl.stepC st x = 1 := by unfold Pl.stepC; rw [h]
theorem Pl.stepC_some {st : Pl.PS} {x : ByteArray} {ws : List ByteArray} (h : Pl.cutL x.data.toList 0 = some ws) : Pl.stepC st x = Pl.wordsC st ws := by unfold Pl.stepC; rw [h]
theorem Pl.stepS_some {st : Pl.PS} {x : ByteArray} {ws : List ByteArray} (h : Pl.cutL x.data.toList 0 = some ws) : Pl.stepS st x = Pl.wordsS st ws := by unfold Pl.stepS; rw [h]
theorem Pl.words_end {st : Pl.PS} {ws : List ByteArray} (hw : ws.length ≠ 0) (he : Pl.isEnd st ws = true) : Pl.wordsC st ws = 0 ∧ Pl.wordsS st ws = ⟨Pl.putBl st.acc st.cur, st.cur, false⟩ := by
  unfold Pl.wordsC Pl.wordsS; rw [if_neg hw, if_neg hw, if_pos he, if_pos he]; exact ⟨rfl, rfl⟩
theorem Pl.words_in {st : Pl.PS} {ws : List ByteArray} (hw : ws.length ≠ 0) (he : Pl.isEnd st ws = false) (ho : st.opn = true) : Pl.wordsC st ws = Pl.insideC st.cur ws ∧ Pl.wordsS st ws = ⟨st.acc, Pl.insideB st.cur ws, true⟩ := by
  unfold Pl.wordsC Pl.wordsS; rw [if_neg hw, if_neg hw, he, ho]; exact ⟨rfl, rfl⟩
theorem Pl.words_out {st : Pl.PS} {ws : List ByteArray} (hw : ws.length ≠ 0) (ho : st.opn = false) : Pl.wordsC st ws = Pl.beginC st.acc ws ∧ Pl.wordsS st ws = ⟨st.acc, Pl.beginB st.acc ws, true⟩ := by
  have he : Pl.isEnd st ws = false := by unfold Pl.isEnd; rw [ho]; rfl
  unfold Pl.wordsC Pl.wordsS; rw [if_neg hw, if_neg hw, he, ho]; exact ⟨rfl, rfl⟩
/-- An answer that tells a fault. -/
theorem ansFault {w W : World} {b0 : Nat} {o : List Pl.Bl × Nat × Nat} (l c : Nat) (x y : List Value) (ho : o = ([], l, c)) (hz : b0 = w.heap.size) (hb : Below w.heap.size w W) : AnsF o w (.returned (.tuple #[.agg #[.slice none 0 0], .agg #[.int .i64 (l : Nat), .int .i64 (c : Nat)]])) ((W.setCells b0 0 x).setCells (b0 + 1) 0 y) := by
  subst ho
  have h1 : Marks (fun b => b = b0) W (W.setCells b0 0 x) := mks_scs (S := fun b => b = b0) rfl _ _ _
  have h2 : Marks (fun b => b = b0 + 1) (W.setCells b0 0 x) ((W.setCells b0 0 x).setCells (b0 + 1) 0 y) := mks_scs (S := fun b => b = b0 + 1) rfl _ _ _
  exact ⟨[.slice none 0 0], [], rfl, .emp _ _ _ rfl .nil, List.nodup_nil, by simp, h2.below (fun b e => by omega) (h1.below (fun b e => by omega) hb)⟩

set_option maxRecDepth 8000 in
set_option maxHeartbeats 16000000 in
theorem sheetParseS (t : ByteArray) (w : World) (hs : t.size ≤ 1048576) :
    Calls Tryz.prog 4 #[.string t] w (AnsF (Pl.parseOut t) w) := by
  obtain ⟨w0, hw0⟩ : ∃ w0, w0 = (((w.alloc (.cells #[.slice none 0 0] 24)).alloc (.cells #[.int .i64 0, .int .i64 0] 26)).alloc (.cells #[.slice none 0 0] 24)).alloc (.cells #[] 9) := ⟨_, rfl⟩
  obtain ⟨b0, hb0⟩ : ∃ b0, b0 = w.heap.size := ⟨_, rfl⟩
  have HBZ := uh hb0
  have HB : Hid (Below w.heap.size w w0) := by show Below _ _ _; rw [hw0]; exact blw_alloc (blw_alloc (blw_alloc (blw_alloc (Below.refl _ _) _) _) _) _
  have HRS : Hid (WBox w0 b0 24 [.slice none 0 0]) := by show WBox _ _ _ _; rw [hw0, hb0]; exact (((WBox.new w [.slice none 0 0] 24 _ rfl).later (blw_alloc (Below.refl _ _) _)).later (blw_alloc (Below.refl _ _) _)).later (blw_alloc (Below.refl _ _) _)
  have HFL : Hid (WBox w0 (b0 + 1) 26 [.int .i64 0, .int .i64 0]) := by show WBox _ _ _ _; rw [hw0, hb0]; exact ((WBox.new (w.alloc (.cells #[.slice none 0 0] 24)) [.int .i64 0, .int .i64 0] 26 _ (by simp)).later (blw_alloc (Below.refl _ _) _)).later (blw_alloc (Below.refl _ _) _)
  have HSX : Hid (WBox w0 (b0 + 2) 24 [.slice none 0 0]) := by show WBox _ _ _ _; rw [hw0, hb0]; exact (WBox.new ((w.alloc (.cells #[.slice none 0 0] 24)).alloc (.cells #[.int .i64 0, .int .i64 0] 26)) [.slice none 0 0] 24 _ (by simp)).later (blw_alloc (Below.refl _ _) _)
  have HZ4 : Hid (w0.heap.size = b0 + 4) := by show _ = _; rw [hw0, hb0]; simp
  have HS := uh hs
  go_enter Tryz.func4, Tryz.ntmps4
  go_upto_region 3 with fail
  rw [← hw0, ← hb0]
  clear hw0 hb0
  by_cases ht : t.size ≤ 20000
  rotate_left
  · have d0 : ¬ ((t.size : Int) ≤ 20000) := by omega
    have d1 : ((20000 : Int) < (t.size : Int)) := by omega
    have HE : Hid (Pl.parseOut t = ([], 0, 11)) := by show _ = _; unfold Pl.parseOut; rw [if_pos (by omega)]
    clear ht hs
    have hth1 : w0.there b0 0 (#[.slice none 0 0] : Array Value).size := uthere (HRS.out).own _ _ (by simp)
    obtain ⟨we1, hwe1⟩ : ∃ we1, we1 = w0.setCells b0 0 [.slice none 0 0] := ⟨_, rfl⟩
    have HW1 := uh hwe1
    have hm1 : Marks (fun b => b = b0) w0 we1 := by rw [hwe1]; exact mks_scs (S := fun b => b = b0) rfl _ _ _
    have hf1 := (HFL.out).mks hm1 (by omega)
    have hth2 : we1.there (b0 + 1) 0 (#[.int .i64 ((0 : Nat) : Int), .int .i64 ((11 : Nat) : Int)] : Array Value).size := uthere hf1.own _ _ (by simp)
    obtain ⟨we2, hwe2⟩ : ∃ we2, we2 = we1.setCells (b0 + 1) 0 [.int .i64 ((0 : Nat) : Int), .int .i64 ((11 : Nat) : Int)] := ⟨_, rfl⟩
    have HW2 := uh hwe2
    have hrs1 : we1.rangeAt b0 0 [.slice none 0 0] := by rw [hwe1]; exact World.rangeAt_setCells_same _ _ _ _ hth1
    have HR1 : Hid (we2.rangeAt b0 0 [.slice none 0 0]) := by
      show World.rangeAt _ _ _ _
      have hb1 : WBox we1 b0 24 [.slice none 0 0] := ⟨by rw [hwe1]; exact own_scs _ _ _ (HRS.out).own, hrs1⟩
      have hm2 : Marks (fun b => b = b0 + 1) we1 we2 := by rw [hwe2]; exact mks_scs (S := fun b => b = b0 + 1) rfl _ _ _
      exact (hb1.mks hm2 (by omega)).at_
    have HR2 : Hid (we2.rangeAt (b0 + 1) 0 [.int .i64 ((0 : Nat) : Int), .int .i64 ((11 : Nat) : Int)]) := by show World.rangeAt _ _ _ _; rw [hwe2]; exact World.rangeAt_setCells_same _ _ _ _ hth2
    clear hwe1 hwe2 hrs1 hm1 hf1
    go_wp2_with (first | (refine wpList_store_mid rfl 24 _ _ rfl b0 0 #[.slice none 0 0] rfl rfl hth1 (by kernel_rfl) (by simp [Value.oneCell']) ?_; first | rw [← HW1.out] | (simp only [List.toList_toArray]; rw [← HW1.out])) | (refine wpList_store_mid rfl 26 _ _ rfl (b0 + 1) 0 #[.int .i64 ((0 : Nat) : Int), .int .i64 ((11 : Nat) : Int)] (by first | rfl | (simp [Act.eval] <;> go_num)) rfl hth2 (by kernel_rfl) (by simp [Value.oneCell']) ?_; first | rw [← HW2.out] | (simp only [List.toList_toArray]; rw [← HW2.out])))
    try simp only [Act.put, List.setIfInBounds_toArray, List.set_cons_zero, List.set_cons_succ]
    have hr1 := HR1.out
    have hr2 := HR2.out
    refine bodyPost_ret (v := .tuple #[.agg #[.slice none 0 0], .agg #[.int .i64 ((0 : Nat) : Int), .int .i64 ((11 : Nat) : Int)]]) (by simp [results, Tryz.results4, asAddr, run_loadVar_mid (P := Tryz.prog) _ _ _ 24 [.slice none 0 0] _ hr1 Tryz.underlying24 rfl (by kernel_rfl), run_loadVar_mid (P := Tryz.prog) _ _ _ 26 [.int .i64 ((0 : Nat) : Int), .int .i64 ((11 : Nat) : Int)] _ hr2 Tryz.underlying26 rfl (by kernel_rfl)]) rfl ?_
    rw [HW2.out, HW1.out]
    exact ansFault (0) (11) _ _ HE.out HBZ.out HB.out
  have d0 : ((t.size : Int) ≤ 20000) := by omega
  have d1 : ¬ ((20000 : Int) < (t.size : Int)) := by omega
  have HT := uh ht
  have HC := uh (l39CutS t w0 hs)
  clear ht hs
  go_wp2_with fail
  refine HC.out.mono ?_
  rintro e w1 ⟨lv, LF, rfl, rep, nd, fr, hb⟩
  obtain ⟨ls, hls⟩ : ∃ ls, ls = Pl.linL t := ⟨_, rfl⟩
  rw [← hls] at rep
  have HLS := uh hls
  obtain ⟨la, lc, hlv⟩ := rep.raw.len0
  subst hlv
  have HLR := uh rep
  have HLF := uh fr
  have HB4 : Hid (b0 + 4 ≤ w0.heap.size) := by show _ ≤ _; have := HSX.out.own.lt; have := HZ4.out; omega
  replace HB := uh (blw_trans HB.out hb)
  replace HRS := uh (HRS.out.later hb)
  replace HFL := uh (HFL.out.later hb)
  replace HSX := uh (HSX.out.later hb)
  clear rep nd fr hb hls HC
  by_cases hn : ls.length ≤ 400
  rotate_left
  · have d2 : ((400 : Int) < (ls.length : Int)) := by omega
    have HE : Hid (Pl.parseOut t = ([], 0, 11)) := by show _ = _; have := HT.out; unfold Pl.parseOut; rw [if_neg (by omega), ← HLS.out, if_pos (by omega)]
    clear hn
    have hth1 : w1.there b0 0 (#[.slice none 0 0] : Array Value).size := uthere (HRS.out).own _ _ (by simp)
    obtain ⟨we1, hwe1⟩ : ∃ we1, we1 = w1.setCells b0 0 [.slice none 0 0] := ⟨_, rfl⟩
    have HW1 := uh hwe1
    have hm1 : Marks (fun b => b = b0) w1 we1 := by rw [hwe1]; exact mks_scs (S := fun b => b = b0) rfl _ _ _
    have hf1 := (HFL.out).mks hm1 (by omega)
    have hth2 : we1.there (b0 + 1) 0 (#[.int .i64 ((0 : Nat) : Int), .int .i64 ((11 : Nat) : Int)] : Array Value).size := uthere hf1.own _ _ (by simp)
    obtain ⟨we2, hwe2⟩ : ∃ we2, we2 = we1.setCells (b0 + 1) 0 [.int .i64 ((0 : Nat) : Int), .int .i64 ((11 : Nat) : Int)] := ⟨_, rfl⟩
    have HW2 := uh hwe2
    have hrs1 : we1.rangeAt b0 0 [.slice none 0 0] := by rw [hwe1]; exact World.rangeAt_setCells_same _ _ _ _ hth1
    have HR1 : Hid (we2.rangeAt b0 0 [.slice none 0 0]) := by
      show World.rangeAt _ _ _ _
      have hb1 : WBox we1 b0 24 [.slice none 0 0] := ⟨by rw [hwe1]; exact own_scs _ _ _ (HRS.out).own, hrs1⟩
      have hm2 : Marks (fun b => b = b0 + 1) we1 we2 := by rw [hwe2]; exact mks_scs (S := fun b => b = b0 + 1) rfl _ _ _
      exact (hb1.mks hm2 (by omega)).at_
    have HR2 : Hid (we2.rangeAt (b0 + 1) 0 [.int .i64 ((0 : Nat) : Int), .int .i64 ((11 : Nat) : Int)]) := by show World.rangeAt _ _ _ _; rw [hwe2]; exact World.rangeAt_setCells_same _ _ _ _ hth2
    clear hwe1 hwe2 hrs1 hm1 hf1
    go_wp2_with (first | (refine wpList_store_mid rfl 24 _ _ rfl b0 0 #[.slice none 0 0] rfl rfl hth1 (by kernel_rfl) (by simp [Value.oneCell']) ?_; first | rw [← HW1.out] | (simp only [List.toList_toArray]; rw [← HW1.out])) | (refine wpList_store_mid rfl 26 _ _ rfl (b0 + 1) 0 #[.int .i64 ((0 : Nat) : Int), .int .i64 ((11 : Nat) : Int)] (by first | rfl | (simp [Act.eval] <;> go_num)) rfl hth2 (by kernel_rfl) (by simp [Value.oneCell']) ?_; first | rw [← HW2.out] | (simp only [List.toList_toArray]; rw [← HW2.out])))
    try simp only [Act.put]
    have hr1 := HR1.out
    have hr2 := HR2.out
    refine bodyPost_ret (v := .tuple #[.agg #[.slice none 0 0], .agg #[.int .i64 ((0 : Nat) : Int), .int .i64 ((11 : Nat) : Int)]]) (by simp [results, Tryz.results4, asAddr, run_loadVar_mid (P := Tryz.prog) _ _ _ 24 [.slice none 0 0] _ hr1 Tryz.underlying24 rfl (by kernel_rfl), run_loadVar_mid (P := Tryz.prog) _ _ _ 26 [.int .i64 ((0 : Nat) : Int), .int .i64 ((11 : Nat) : Int)] _ hr2 Tryz.underlying26 rfl (by kernel_rfl)]) rfl ?_
    rw [HW2.out, HW1.out]
    exact ansFault (0) (11) _ _ HE.out HBZ.out HB.out
  have HE0 : Hid (Pl.parseOut t = Pl.parseFrom Pl.psNo ls 0) := by show _ = _; have := HT.out; unfold Pl.parseOut; rw [if_neg (by omega), ← HLS.out, if_neg (by omega)]
  have d2 : ¬ ((400 : Int) < (ls.length : Int)) := by omega
  obtain ⟨pb, hpb⟩ : ∃ pb, pb = w1.heap.size := ⟨_, rfl⟩
  have HPB : Hid (b0 + 3 ≤ pb) := by show _ ≤ _; rw [hpb]; exact HSX.out.own.lt
  obtain ⟨wx, hwx⟩ : ∃ wx, wx = w1.alloc (.cells #[.string { data := #[] }, .string { data := #[] }, .slice none 0 0] 37) := ⟨_, rfl⟩
  have hbx : Below w1.heap.size w1 wx := by rw [hwx]; exact blw_alloc (Below.refl _ _) _
  have H0 : Hid (Pz w b0 pb ls (.slice la ls.length lc) Pl.psNo (.slice none 0 0) (.slice none 0 0) wx) := by
    show Pz _ _ _ _ _ _ _ _ _
    refine ⟨blw_trans HB.out hbx, HRS.out.later hbx, HFL.out.later hbx, HSX.out.later hbx, ?_, ?_, dat_nil, dat_nil⟩
    · rw [hwx]; exact WBox.new w1 [.string { data := #[] }, .string { data := #[] }, .slice none 0 0] 37 _ hpb
    · exact ⟨LF, HLR.out.later hbx, fun b hb => Or.inl ⟨by have := HLF.out b hb; have := HB4.out; omega, by rw [hpb]; exact HLR.out.lt b hb⟩⟩
  clear hbx HB HRS HFL HSX HLR HLF HB4
  go_upto_region 9 with fail
  rw [← hwx, ← hpb]
  clear hwx hpb d0 d1 d2
  have HN := uh hn
  clear hn
  go_wp2
  go_loopw [6, 8] (fun vo vi wr => ∃ (k : Nat) (st : Pl.PS) (xv cv : Value), k ≤ ls.length ∧ vo = .bool st.opn ∧ vi = .int .i64 k ∧ Pl.OkP k st ∧ Pl.parseFrom st (ls.drop k) k = Pl.parseOut t ∧ Pz w b0 pb ls (.slice la ls.length lc) st xv cv wr) (fun _ vi _ => ls.length - (intOf vi).toNat)
  case atStart => exact ⟨0, Pl.psNo, _, _, Nat.zero_le _, rfl, rfl, Pl.okNo, HE0.out.symm, H0.out⟩
  case round =>
    obtain ⟨k, st, xv, cv, hk, rfl, rfl, hok, hpf, hP⟩ := hrel
    have HP := uh hP
    have HOK := uh hok
    have HPF := uh hpf
    obtain ⟨xa, xc, hxx⟩ := hP.sd.raw.len0
    subst hxx
    obtain ⟨ca, cc, hxx⟩ := hP.bd.raw.len0
    subst hxx
    clear hP hok hpf H0 HE0
    by_cases hlt : k < ls.length
    rotate_left
    · obtain rfl : k = ls.length := by omega
      have hnlt : ¬ ((ls.length : Int) < (ls.length : Int)) := by omega
      have HQ : Hid (Pl.parseOut t = if st.opn then ([], ls.length + 1, 8) else (st.acc, 0, 0)) := by show _ = _; rw [← HPF.out, List.drop_length, Pl.parseFrom]
      clear hlt hk HPF
      cases hop : st.opn
      · rw [hop] at HQ
        have xz := HP.out.s.own.lt
        have xa' := HP.out.s.at_
        have HCC := uh (l39CopyS st.acc (.slice xa st.acc.length xc) wr HP.out.sd.raw (by have := HOK.out.al; have := HN.out; omega) (fun b hb => ⟨by have := (HOK.out.aw b hb).1; have := HN.out; omega, fun x hx => by have := (HOK.out.aw b hb).2 x hx; omega⟩))
        go_wp2_with (refine wpList_load_mid rfl 24 _ rfl (b0 + 2) 0 rfl [.slice xa st.acc.length xc] _ xa' Tryz.underlying24 rfl (by kernel_rfl) ?_)
        refine HCC.out.mono ?_
        rintro e w2 ⟨c2, F2, rfl, rep, nd, fr, hb⟩
        obtain ⟨ya, yc, hc, _⟩ := dat_sheet (dat_new (S := fun _ => True) (B := 0) (lo := 0) rep (fun _ _ => Nat.zero_le _))
        subst hc
        have HREP := uh rep
        have HND := uh nd
        have HFR := uh fr
        have HPL := uh (HP.out.s.own.lt)
        replace HP := uh (HP.out.later hb)
        clear rep nd fr hb HCC xz xa' hnlt
        have hth1 : w2.there b0 0 (#[.slice ya st.acc.length yc] : Array Value).size := uthere (HP.out.res).own _ _ (by simp)
        obtain ⟨we1, hwe1⟩ : ∃ we1, we1 = w2.setCells b0 0 [.slice ya st.acc.length yc] := ⟨_, rfl⟩
        have HW1 := uh hwe1
        have hm1 : Marks (fun b => b = b0) w2 we1 := by rw [hwe1]; exact mks_scs (S := fun b => b = b0) rfl _ _ _
        have hf1 := (HP.out.flt).mks hm1 (by omega)
        have hth2 : we1.there (b0 + 1) 0 (#[.int .i64 ((0 : Nat) : Int), .int .i64 ((0 : Nat) : Int)] : Array Value).size := uthere hf1.own _ _ (by simp)
        obtain ⟨we2, hwe2⟩ : ∃ we2, we2 = we1.setCells (b0 + 1) 0 [.int .i64 ((0 : Nat) : Int), .int .i64 ((0 : Nat) : Int)] := ⟨_, rfl⟩
        have HW2 := uh hwe2
        have hrs1 : we1.rangeAt b0 0 [.slice ya st.acc.length yc] := by rw [hwe1]; exact World.rangeAt_setCells_same _ _ _ _ hth1
        have HR1 : Hid (we2.rangeAt b0 0 [.slice ya st.acc.length yc]) := by
          show World.rangeAt _ _ _ _
          have hb1 : WBox we1 b0 24 [.slice ya st.acc.length yc] := ⟨by rw [hwe1]; exact own_scs _ _ _ (HP.out.res).own, hrs1⟩
          have hm2 : Marks (fun b => b = b0 + 1) we1 we2 := by rw [hwe2]; exact mks_scs (S := fun b => b = b0 + 1) rfl _ _ _
          exact (hb1.mks hm2 (by omega)).at_
        have HR2 : Hid (we2.rangeAt (b0 + 1) 0 [.int .i64 ((0 : Nat) : Int), .int .i64 ((0 : Nat) : Int)]) := by show World.rangeAt _ _ _ _; rw [hwe2]; exact World.rangeAt_setCells_same _ _ _ _ hth2
        clear hwe1 hwe2 hrs1 hm1 hf1
        go_wp2_with (first | (refine wpList_store_mid rfl 24 _ _ rfl b0 0 #[.slice ya st.acc.length yc] rfl rfl hth1 (by kernel_rfl) (by simp [Value.oneCell']) ?_; first | rw [← HW1.out] | (simp only [List.toList_toArray]; rw [← HW1.out])) | (refine wpList_store_mid rfl 26 _ _ rfl (b0 + 1) 0 #[.int .i64 ((0 : Nat) : Int), .int .i64 ((0 : Nat) : Int)] (by first | rfl | (simp [Act.eval] <;> go_num)) rfl hth2 (by kernel_rfl) (by simp [Value.oneCell']) ?_; first | rw [← HW2.out] | (simp only [List.toList_toArray]; rw [← HW2.out])))
        try simp only [Act.put]
        have hr1 := HR1.out
        have hr2 := HR2.out
        refine bodyPost_ret (v := .tuple #[.agg #[.slice ya st.acc.length yc], .agg #[.int .i64 ((0 : Nat) : Int), .int .i64 ((0 : Nat) : Int)]]) (by simp [results, Tryz.results4, asAddr, run_loadVar_mid (P := Tryz.prog) _ _ _ 24 [.slice ya st.acc.length yc] _ hr1 Tryz.underlying24 rfl (by kernel_rfl), run_loadVar_mid (P := Tryz.prog) _ _ _ 26 [.int .i64 ((0 : Nat) : Int), .int .i64 ((0 : Nat) : Int)] _ hr2 Tryz.underlying26 rfl (by kernel_rfl)]) rfl ?_

        have hz := HBZ.out
        have hpl := HPL.out
        have h1 : Marks (fun b => b = b0) w2 we1 := by rw [HW1.out]; exact mks_scs (S := fun b => b = b0) rfl _ _ _
        have h2 : Marks (fun b => b = b0 + 1) we1 we2 := by rw [HW2.out]; exact mks_scs (S := fun b => b = b0 + 1) rfl _ _ _
        have hq := HQ.out
        rw [hq]
        exact ⟨[.slice ya st.acc.length yc], F2, rfl, (HREP.out.keep h1 (fun b hb e => by have := HFR.out b hb; omega)).keep h2 (fun b hb e => by have := HFR.out b hb; omega), HND.out, fun b hb => by have := HFR.out b hb; omega, h2.below (fun b e => by omega) (h1.below (fun b e => by omega) HP.out.bel)⟩
      · rw [hop] at HQ
        have hth1 : wr.there b0 0 (#[.slice none 0 0] : Array Value).size := uthere (HP.out.res).own _ _ (by simp)
        obtain ⟨we1, hwe1⟩ : ∃ we1, we1 = wr.setCells b0 0 [.slice none 0 0] := ⟨_, rfl⟩
        have HW1 := uh hwe1
        have hm1 : Marks (fun b => b = b0) wr we1 := by rw [hwe1]; exact mks_scs (S := fun b => b = b0) rfl _ _ _
        have hf1 := (HP.out.flt).mks hm1 (by omega)
        have hth2 : we1.there (b0 + 1) 0 (#[.int .i64 ((ls.length + 1 : Nat) : Int), .int .i64 ((8 : Nat) : Int)] : Array Value).size := uthere hf1.own _ _ (by simp)
        obtain ⟨we2, hwe2⟩ : ∃ we2, we2 = we1.setCells (b0 + 1) 0 [.int .i64 ((ls.length + 1 : Nat) : Int), .int .i64 ((8 : Nat) : Int)] := ⟨_, rfl⟩
        have HW2 := uh hwe2
        have hrs1 : we1.rangeAt b0 0 [.slice none 0 0] := by rw [hwe1]; exact World.rangeAt_setCells_same _ _ _ _ hth1
        have HR1 : Hid (we2.rangeAt b0 0 [.slice none 0 0]) := by
          show World.rangeAt _ _ _ _
          have hb1 : WBox we1 b0 24 [.slice none 0 0] := ⟨by rw [hwe1]; exact own_scs _ _ _ (HP.out.res).own, hrs1⟩
          have hm2 : Marks (fun b => b = b0 + 1) we1 we2 := by rw [hwe2]; exact mks_scs (S := fun b => b = b0 + 1) rfl _ _ _
          exact (hb1.mks hm2 (by omega)).at_
        have HR2 : Hid (we2.rangeAt (b0 + 1) 0 [.int .i64 ((ls.length + 1 : Nat) : Int), .int .i64 ((8 : Nat) : Int)]) := by show World.rangeAt _ _ _ _; rw [hwe2]; exact World.rangeAt_setCells_same _ _ _ _ hth2
        clear hwe1 hwe2 hrs1 hm1 hf1
        go_wp2_with (first | (refine wpList_store_mid rfl 24 _ _ rfl b0 0 #[.slice none 0 0] rfl rfl hth1 (by kernel_rfl) (by simp [Value.oneCell']) ?_; first | rw [← HW1.out] | (simp only [List.toList_toArray]; rw [← HW1.out])) | (refine wpList_store_mid rfl 26 _ _ rfl (b0 + 1) 0 #[.int .i64 ((ls.length + 1 : Nat) : Int), .int .i64 ((8 : Nat) : Int)] (by first | rfl | (simp [Act.eval] <;> go_num)) rfl hth2 (by kernel_rfl) (by simp [Value.oneCell']) ?_; first | rw [← HW2.out] | (simp only [List.toList_toArray]; rw [← HW2.out])))
        try simp only [Act.put]
        have hr1 := HR1.out
        have hr2 := HR2.out
        refine bodyPost_ret (v := .tuple #[.agg #[.slice none 0 0], .agg #[.int .i64 ((ls.length + 1 : Nat) : Int), .int .i64 ((8 : Nat) : Int)]]) (by simp [results, Tryz.results4, asAddr, run_loadVar_mid (P := Tryz.prog) _ _ _ 24 [.slice none 0 0] _ hr1 Tryz.underlying24 rfl (by kernel_rfl), run_loadVar_mid (P := Tryz.prog) _ _ _ 26 [.int .i64 ((ls.length + 1 : Nat) : Int), .int .i64 ((8 : Nat) : Int)] _ hr2 Tryz.underlying26 rfl (by kernel_rfl)]) rfl ?_
        rw [HW2.out, HW1.out]
        exact ansFault (ls.length + 1) (8) _ _ HQ.out HBZ.out HP.out.bel
    have HQ : Hid (Pl.parseOut t = if Pl.stepC st (ls.getD k Pl.txNo) = 0 then Pl.parseFrom (Pl.stepS st (ls.getD k Pl.txNo)) (ls.drop (k + 1)) (k + 1) else ([], k + 1, Pl.stepC st (ls.getD k Pl.txNo))) := by show _ = _; rw [← HPF.out, Pl.drop_line ls k hlt, Pl.parseFrom]
    obtain ⟨x, hx⟩ : ∃ x, x = ls.getD k Pl.txNo := ⟨_, rfl⟩
    rw [← hx] at HQ
    have hxs : x.size ≤ 1048576 := by
      have e : ls.getD k Pl.txNo = ls[k] := by simp [hlt]
      have hm : x ∈ Pl.linL t := by rw [hx, e, ← HLS.out]; exact List.getElem_mem _
      exact Nat.le_trans (Pl.linL_size t x hm) HS.out
    rcases txs_open HP.out.ln.raw with ⟨e0, _⟩ | ⟨p, o, c, hv, hp, hml, hopen⟩
    · omega
    injection hv with g1 g2 g3
    subst g1; subst g3
    have y0 := hopen k hlt
    rw [← hx] at y0
    have hk0 : (0 : Int) ≤ (k : Int) := by omega
    have hkn : (k : Int) < (ls.length : Int) := by omega
    have HC1 := uh (sheetWordsS x wr hxs)
    clear hx hxs hopen hml HPF
    go_wp2_with fail
    refine HC1.out.mono ?_
    rintro e w3 ⟨c1, CF, rfl, rep, nd, fr, hb⟩
    replace HP := uh (HP.out.later hb)
    have HCR := uh rep.raw
    clear rep nd fr hb HC1 y0 hp hk0 hkn
    obtain ⟨pq, hpq⟩ : ∃ pq, pq = w3.heap.size := ⟨_, rfl⟩
    cases hcut : Pl.cutL x.data.toList 0 with
    | none =>
      rw [cutD_none hcut] at HCR
      obtain ⟨v0, hc, hr0⟩ := rawSheetCut HCR.out
      subst hc
      obtain ⟨va, vc, hv⟩ := hr0.len0
      subst hv
      have HE : Hid (Pl.parseOut t = ([], k + 1, 1)) := by show _ = _; rw [HQ.out, Pl.stepC_none hcut]; rfl
      obtain ⟨wy, hwy⟩ : ∃ wy, wy = w3.alloc (.cells #[.slice va 0 vc, .bool true] 39) := ⟨_, rfl⟩
      have hby : Below w3.heap.size w3 wy := by rw [hwy]; exact blw_alloc (Below.refl _ _) _
      have HCB : Hid (WBox wy pq 39 [.slice va 0 vc, .bool true]) := by show WBox _ _ _ _; rw [hwy]; exact WBox.new w3 _ 39 _ hpq
      replace HP := uh (HP.out.later hby)
      clear hby hcut HQ HCR hr0
      go_upto_region 16 with fail
      rw [← hwy, ← hpq]
      clear hwy hpq
      have y1 := HCB.out.get 1 _ rfl
      have yz := HCB.out.own.lt
      have hth1 : wy.there b0 0 (#[.slice none 0 0] : Array Value).size := uthere (HP.out.res).own _ _ (by simp)
      obtain ⟨we1, hwe1⟩ : ∃ we1, we1 = wy.setCells b0 0 [.slice none 0 0] := ⟨_, rfl⟩
      have HW1 := uh hwe1
      have hm1 : Marks (fun b => b = b0) wy we1 := by rw [hwe1]; exact mks_scs (S := fun b => b = b0) rfl _ _ _
      have hf1 := (HP.out.flt).mks hm1 (by omega)
      have hth2 : we1.there (b0 + 1) 0 (#[.int .i64 ((k + 1 : Nat) : Int), .int .i64 ((1 : Nat) : Int)] : Array Value).size := uthere hf1.own _ _ (by simp)
      obtain ⟨we2, hwe2⟩ : ∃ we2, we2 = we1.setCells (b0 + 1) 0 [.int .i64 ((k + 1 : Nat) : Int), .int .i64 ((1 : Nat) : Int)] := ⟨_, rfl⟩
      have HW2 := uh hwe2
      have hrs1 : we1.rangeAt b0 0 [.slice none 0 0] := by rw [hwe1]; exact World.rangeAt_setCells_same _ _ _ _ hth1
      have HR1 : Hid (we2.rangeAt b0 0 [.slice none 0 0]) := by
        show World.rangeAt _ _ _ _
        have hb1 : WBox we1 b0 24 [.slice none 0 0] := ⟨by rw [hwe1]; exact own_scs _ _ _ (HP.out.res).own, hrs1⟩
        have hm2 : Marks (fun b => b = b0 + 1) we1 we2 := by rw [hwe2]; exact mks_scs (S := fun b => b = b0 + 1) rfl _ _ _
        exact (hb1.mks hm2 (by omega)).at_
      have HR2 : Hid (we2.rangeAt (b0 + 1) 0 [.int .i64 ((k + 1 : Nat) : Int), .int .i64 ((1 : Nat) : Int)]) := by show World.rangeAt _ _ _ _; rw [hwe2]; exact World.rangeAt_setCells_same _ _ _ _ hth2
      clear hwe1 hwe2 hrs1 hm1 hf1
      go_wp2_with (first | (refine wpList_store_mid rfl 24 _ _ rfl b0 0 #[.slice none 0 0] rfl rfl hth1 (by kernel_rfl) (by simp [Value.oneCell']) ?_; first | rw [← HW1.out] | (simp only [List.toList_toArray]; rw [← HW1.out])) | (refine wpList_store_mid rfl 26 _ _ rfl (b0 + 1) 0 #[.int .i64 ((k + 1 : Nat) : Int), .int .i64 ((1 : Nat) : Int)] (by first | rfl | (simp [Act.eval] <;> go_num)) rfl hth2 (by kernel_rfl) (by simp [Value.oneCell']) ?_; first | rw [← HW2.out] | (simp only [List.toList_toArray]; rw [← HW2.out])))
      try simp only [Act.put]
      have hr1 := HR1.out
      have hr2 := HR2.out
      refine bodyPost_ret (v := .tuple #[.agg #[.slice none 0 0], .agg #[.int .i64 ((k + 1 : Nat) : Int), .int .i64 ((1 : Nat) : Int)]]) (by simp [results, Tryz.results4, asAddr, run_loadVar_mid (P := Tryz.prog) _ _ _ 24 [.slice none 0 0] _ hr1 Tryz.underlying24 rfl (by kernel_rfl), run_loadVar_mid (P := Tryz.prog) _ _ _ 26 [.int .i64 ((k + 1 : Nat) : Int), .int .i64 ((1 : Nat) : Int)] _ hr2 Tryz.underlying26 rfl (by kernel_rfl)]) rfl ?_
      rw [HW2.out, HW1.out]
      exact ansFault (k + 1) (1) _ _ HE.out HBZ.out HP.out.bel
    | some ws =>
      have hw8 : ws.length ≤ 8 := by have := cutL_len x.data.toList.length x.data.toList 0 (Nat.le_refl _) (by omega) ws hcut; omega
      have hwz := Pl.cut_sizes x.data.toList.length x.data.toList 0 (Nat.le_refl _) ws hcut
      have HWZ : Hid (∀ y ∈ ws, y.size ≤ maxLen) := fun y hy => Nat.le_trans (hwz y hy) (by decide)
      have HOW := uh (HOK.out.words ws hw8)
      have HQW : Hid (Pl.parseOut t = if Pl.wordsC st ws = 0 then Pl.parseFrom (Pl.wordsS st ws) (ls.drop (k + 1)) (k + 1) else ([], k + 1, Pl.wordsC st ws)) := by show _ = _; rw [HQ.out, Pl.stepC_some hcut, Pl.stepS_some hcut]
      rw [cutD_some hcut] at HCR
      obtain ⟨v0, hc, hr0⟩ := rawSheetCut HCR.out
      subst hc
      obtain ⟨va, vc, hv⟩ := hr0.len0
      subst hv
      obtain ⟨wy, hwy⟩ : ∃ wy, wy = w3.alloc (.cells #[.slice va ws.length vc, .bool false] 39) := ⟨_, rfl⟩
      have hby : Below w3.heap.size w3 wy := by rw [hwy]; exact blw_alloc (Below.refl _ _) _
      have HCB : Hid (WBox wy pq 39 [.slice va ws.length vc, .bool false]) := by show WBox _ _ _ _; rw [hwy]; exact WBox.new w3 _ 39 _ hpq
      have HWR := uh (hr0.later hby)
      replace HP := uh (HP.out.later hby)
      clear hby hcut HQ HCR hr0 hwz
      go_upto_region 16 with fail
      rw [← hwy, ← hpq]
      clear hwy hpq
      have y1 := HCB.out.get 1 _ rfl
      have yz := HCB.out.own.lt
      have yw := HCB.out.get 0 _ rfl
      by_cases hw0 : ws.length = 0
      · have d0 : ((ws.length : Int) == 0) = true := by rw [hw0]; rfl
        have HWC : Hid (Pl.wordsC st ws = 0) := by show _ = _; unfold Pl.wordsC; rw [if_pos hw0]
        have HWS : Hid (Pl.wordsS st ws = st) := by show _ = _; unfold Pl.wordsS; rw [if_pos hw0]
        go_upto_region 24 with fail
        clear y1 yz yw d0
        go_wp2
        go_roundw
        case rel => exact ⟨k + 1, st, _, _, by omega, rfl, by go_num, by have := HOW.out; rw [HWS.out] at this; exact this, by rw [HQW.out, if_pos HWC.out, HWS.out], HP.out⟩
        case measure => simp [intOf]; omega
      have d0 : ((ws.length : Int) == 0) = false := beq_eq_false_iff_ne.2 (by omega)
      go_upto_region 19 with fail
      clear d0 y1
      cases hop : st.opn
      · have HW : Hid (Pl.wordsC st ws = Pl.beginC st.acc ws ∧ Pl.wordsS st ws = ⟨st.acc, Pl.beginB st.acc ws, true⟩) := Pl.words_out hw0 hop
        have HL : Hid ((Pl.beginB st.acc ws).lines = []) := Pl.beginB_lines _ _
        have xz := HP.out.s.own.lt
        have xa' := HP.out.s.at_
        have HCA := uh (l39BeginS st.acc ws (.slice xa st.acc.length xc) (.slice va ws.length vc) wy HP.out.sd.raw HWR.out (by have := HOK.out.al; have := HN.out; omega) HWZ.out)
        go_wp2_with (refine wpList_load_mid rfl 24 _ rfl (b0 + 2) 0 rfl [.slice xa st.acc.length xc] _ xa' Tryz.underlying24 rfl (by kernel_rfl) ?_)
        refine HCA.out.mono ?_
        rintro e w4 ⟨rfl, hb⟩
        obtain ⟨bb, hbb⟩ : ∃ bb, bb = Pl.beginB st.acc ws := ⟨_, rfl⟩
        obtain ⟨cd, hcd⟩ : ∃ cd, cd = Pl.beginC st.acc ws := ⟨_, rfl⟩
        rw [← hbb, ← hcd]
        rw [← hbb] at HW HL
        have HCD := uh hcd
        replace HP := uh (HP.out.later hb)
        clear hb hbb hcd xz xa' yz yw HCA
        have hth : w4.there pb 0 (#[.string bb.kind, .string bb.name, .slice none 0 0] : Array Value).size := uthere HP.out.b.own _ _ (by simp)
        obtain ⟨we, hwe⟩ : ∃ we, we = w4.setCells pb 0 [.string bb.kind, .string bb.name, .slice none 0 0] := ⟨_, rfl⟩
        have HN2 : Hid (Pz w b0 pb ls (.slice (some ⟨p, o, none⟩) ls.length lc) ⟨st.acc, bb, true⟩ (.slice xa st.acc.length xc) (.slice none 0 0) we) := by show Pz _ _ _ _ _ _ _ _ _; rw [hwe]; exact HP.out.putB HBZ.out HPB.out (by rw [HL.out]; exact dat_nil)
        have HWE := uh hwe
        clear hwe
        go_upto_region 24 with (refine wpList_store_mid rfl 37 _ _ rfl pb 0 #[.string bb.kind, .string bb.name, .slice none 0 0] rfl rfl hth (by kernel_rfl) (by simp [Value.oneCell']) ?_; first | rw [← HWE.out] | (simp only [List.toList_toArray]; rw [← HWE.out]))
        clear hth HP HWE
        by_cases hcz : cd = 0
        · have d3 : (((cd : Nat) : Int) != 0) = false := by rw [hcz]; rfl
          have HWC : Hid (Pl.wordsC st ws = 0) := by show _ = _; rw [HW.out.1, ← HCD.out]; exact hcz
          have HWS : Hid (Pl.wordsS st ws = ⟨st.acc, bb, true⟩) := HW.out.2
          go_wp2
          go_roundw
          case rel => exact ⟨k + 1, ⟨st.acc, bb, true⟩, _, _, by omega, rfl, by go_num, by have := HOW.out; rw [HWS.out] at this; exact this, by rw [HQW.out, if_pos HWC.out, HWS.out], HN2.out⟩
          case measure => simp [intOf]; omega
        · have d3 : (((cd : Nat) : Int) != 0) = true := by simp; omega
          have HE : Hid (Pl.parseOut t = ([], k + 1, cd)) := by show _ = _; rw [HQW.out, HW.out.1, ← HCD.out, if_neg hcz]
          have hth1 : we.there b0 0 (#[.slice none 0 0] : Array Value).size := uthere (HN2.out.res).own _ _ (by simp)
          obtain ⟨we1, hwe1⟩ : ∃ we1, we1 = we.setCells b0 0 [.slice none 0 0] := ⟨_, rfl⟩
          have HW1 := uh hwe1
          have hm1 : Marks (fun b => b = b0) we we1 := by rw [hwe1]; exact mks_scs (S := fun b => b = b0) rfl _ _ _
          have hf1 := (HN2.out.flt).mks hm1 (by omega)
          have hth2 : we1.there (b0 + 1) 0 (#[.int .i64 ((k + 1 : Nat) : Int), .int .i64 ((cd : Nat) : Int)] : Array Value).size := uthere hf1.own _ _ (by simp)
          obtain ⟨we2, hwe2⟩ : ∃ we2, we2 = we1.setCells (b0 + 1) 0 [.int .i64 ((k + 1 : Nat) : Int), .int .i64 ((cd : Nat) : Int)] := ⟨_, rfl⟩
          have HW2 := uh hwe2
          have hrs1 : we1.rangeAt b0 0 [.slice none 0 0] := by rw [hwe1]; exact World.rangeAt_setCells_same _ _ _ _ hth1
          have HR1 : Hid (we2.rangeAt b0 0 [.slice none 0 0]) := by
            show World.rangeAt _ _ _ _
            have hb1 : WBox we1 b0 24 [.slice none 0 0] := ⟨by rw [hwe1]; exact own_scs _ _ _ (HN2.out.res).own, hrs1⟩
            have hm2 : Marks (fun b => b = b0 + 1) we1 we2 := by rw [hwe2]; exact mks_scs (S := fun b => b = b0 + 1) rfl _ _ _
            exact (hb1.mks hm2 (by omega)).at_
          have HR2 : Hid (we2.rangeAt (b0 + 1) 0 [.int .i64 ((k + 1 : Nat) : Int), .int .i64 ((cd : Nat) : Int)]) := by show World.rangeAt _ _ _ _; rw [hwe2]; exact World.rangeAt_setCells_same _ _ _ _ hth2
          clear hwe1 hwe2 hrs1 hm1 hf1
          go_wp2_with (first | (refine wpList_store_mid rfl 24 _ _ rfl b0 0 #[.slice none 0 0] rfl rfl hth1 (by kernel_rfl) (by simp [Value.oneCell']) ?_; first | rw [← HW1.out] | (simp only [List.toList_toArray]; rw [← HW1.out])) | (refine wpList_store_mid rfl 26 _ _ rfl (b0 + 1) 0 #[.int .i64 ((k + 1 : Nat) : Int), .int .i64 ((cd : Nat) : Int)] (by first | rfl | (simp [Act.eval] <;> go_num)) rfl hth2 (by kernel_rfl) (by simp [Value.oneCell']) ?_; first | rw [← HW2.out] | (simp only [List.toList_toArray]; rw [← HW2.out])))
          try simp only [Act.put]
          have hr1 := HR1.out
          have hr2 := HR2.out
          refine bodyPost_ret (v := .tuple #[.agg #[.slice none 0 0], .agg #[.int .i64 ((k + 1 : Nat) : Int), .int .i64 ((cd : Nat) : Int)]]) (by simp [results, Tryz.results4, asAddr, run_loadVar_mid (P := Tryz.prog) _ _ _ 24 [.slice none 0 0] _ hr1 Tryz.underlying24 rfl (by kernel_rfl), run_loadVar_mid (P := Tryz.prog) _ _ _ 26 [.int .i64 ((k + 1 : Nat) : Int), .int .i64 ((cd : Nat) : Int)] _ hr2 Tryz.underlying26 rfl (by kernel_rfl)]) rfl ?_
          rw [HW2.out, HW1.out]
          exact ansFault (k + 1) (cd) _ _ HE.out HBZ.out HN2.out.bel
      · rcases txs_open HWR.out with ⟨e0, _⟩ | ⟨p2, o2, c2, hv, hp2, hml, hopen⟩
        · omega
        injection hv with g1 g2 g3
        subst g1; subst g3
        obtain ⟨k0, hk0⟩ : ∃ k0, k0 = ws.getD 0 Pl.txNo := ⟨_, rfl⟩
        have y2 := hopen 0 (by omega)
        rw [← hk0, Nat.add_zero] at y2
        have yp := hp2
        clear hopen hml hp2
        by_cases hone : ws.length = 1
        rotate_left
        · have d1 : ((ws.length : Int) == 1) = false := beq_eq_false_iff_ne.2 (by omega)
          have HIE : Hid (Pl.isEnd st ws = false) := by show _ = _; unfold Pl.isEnd; rw [decide_eq_false hone]; simp
          clear hk0
          have HW : Hid (Pl.wordsC st ws = Pl.insideC st.cur ws ∧ Pl.wordsS st ws = ⟨st.acc, Pl.insideB st.cur ws, true⟩) := Pl.words_in hw0 HIE.out hop
          have xz := HP.out.b.own.lt
          have xa' := HP.out.b.at_
          have HCA := uh (l39InsideS (S := fun _ => True) (B := b0) (lo := pb + 1) st.cur ws (.slice ca st.cur.lines.length cc) (.slice (some ⟨p2, o2, none⟩) ws.length vc) wy HP.out.bd HWR.out (by omega) (by omega) HWZ.out (by have := HOK.out.cl; have := HN.out; omega) xz)
          skip
          go_wp2_with (refine wpList_load_mid rfl 37 _ rfl pb 0 rfl [.string st.cur.kind, .string st.cur.name, .slice ca st.cur.lines.length cc] _ xa' Tryz.underlying37 rfl (by kernel_rfl) ?_)
          refine HCA.out.mono ?_
          rintro e w4 ⟨c4, rfl, hD, hb⟩
          obtain ⟨bb, hbb⟩ : ∃ bb, bb = Pl.insideB st.cur ws := ⟨_, rfl⟩
          obtain ⟨cd, hcd⟩ : ∃ cd, cd = Pl.insideC st.cur ws := ⟨_, rfl⟩
          rw [← hcd]
          rw [← hbb] at HW hD
          obtain ⟨ia, ic, hc, hD2⟩ := dat_block hD
          subst hc
          have HCD := uh hcd
          have HD2 := uh hD2
          replace HP := uh (HP.out.later hb)
          clear hb hbb hcd xz xa' yz yw y2 yp HCA hD hD2 d1
          have hth : w4.there pb 0 (#[.string bb.kind, .string bb.name, .slice ia bb.lines.length ic] : Array Value).size := uthere HP.out.b.own _ _ (by simp)
          obtain ⟨we, hwe⟩ : ∃ we, we = w4.setCells pb 0 [.string bb.kind, .string bb.name, .slice ia bb.lines.length ic] := ⟨_, rfl⟩
          have HN2 : Hid (Pz w b0 pb ls (.slice (some ⟨p, o, none⟩) ls.length lc) ⟨st.acc, bb, true⟩ (.slice xa st.acc.length xc) (.slice ia bb.lines.length ic) we) := by show Pz _ _ _ _ _ _ _ _ _; rw [hwe]; exact HP.out.putB HBZ.out HPB.out HD2.out
          have HWE := uh hwe
          clear hwe
          go_upto_region 24 with (refine wpList_store_mid rfl 37 _ _ rfl pb 0 #[.string bb.kind, .string bb.name, .slice ia bb.lines.length ic] rfl rfl hth (by kernel_rfl) (by simp [Value.oneCell']) ?_; first | rw [← HWE.out] | (simp only [List.toList_toArray]; rw [← HWE.out]))
          clear hth HP HWE HD2
          by_cases hcz : cd = 0
          · have d3 : (((cd : Nat) : Int) != 0) = false := by rw [hcz]; rfl
            have HWC : Hid (Pl.wordsC st ws = 0) := by show _ = _; rw [HW.out.1, ← HCD.out]; exact hcz
            have HWS : Hid (Pl.wordsS st ws = ⟨st.acc, bb, true⟩) := HW.out.2
            go_wp2
            go_roundw
            case rel => exact ⟨k + 1, ⟨st.acc, bb, true⟩, _, _, by omega, rfl, by go_num, by have := HOW.out; rw [HWS.out] at this; exact this, by rw [HQW.out, if_pos HWC.out, HWS.out], HN2.out⟩
            case measure => simp [intOf]; omega
          · have d3 : (((cd : Nat) : Int) != 0) = true := by simp; omega
            have HE : Hid (Pl.parseOut t = ([], k + 1, cd)) := by show _ = _; rw [HQW.out, HW.out.1, ← HCD.out, if_neg hcz]
            have hth1 : we.there b0 0 (#[.slice none 0 0] : Array Value).size := uthere (HN2.out.res).own _ _ (by simp)
            obtain ⟨we1, hwe1⟩ : ∃ we1, we1 = we.setCells b0 0 [.slice none 0 0] := ⟨_, rfl⟩
            have HW1 := uh hwe1
            have hm1 : Marks (fun b => b = b0) we we1 := by rw [hwe1]; exact mks_scs (S := fun b => b = b0) rfl _ _ _
            have hf1 := (HN2.out.flt).mks hm1 (by omega)
            have hth2 : we1.there (b0 + 1) 0 (#[.int .i64 ((k + 1 : Nat) : Int), .int .i64 ((cd : Nat) : Int)] : Array Value).size := uthere hf1.own _ _ (by simp)
            obtain ⟨we2, hwe2⟩ : ∃ we2, we2 = we1.setCells (b0 + 1) 0 [.int .i64 ((k + 1 : Nat) : Int), .int .i64 ((cd : Nat) : Int)] := ⟨_, rfl⟩
            have HW2 := uh hwe2
            have hrs1 : we1.rangeAt b0 0 [.slice none 0 0] := by rw [hwe1]; exact World.rangeAt_setCells_same _ _ _ _ hth1
            have HR1 : Hid (we2.rangeAt b0 0 [.slice none 0 0]) := by
              show World.rangeAt _ _ _ _
              have hb1 : WBox we1 b0 24 [.slice none 0 0] := ⟨by rw [hwe1]; exact own_scs _ _ _ (HN2.out.res).own, hrs1⟩
              have hm2 : Marks (fun b => b = b0 + 1) we1 we2 := by rw [hwe2]; exact mks_scs (S := fun b => b = b0 + 1) rfl _ _ _
              exact (hb1.mks hm2 (by omega)).at_
            have HR2 : Hid (we2.rangeAt (b0 + 1) 0 [.int .i64 ((k + 1 : Nat) : Int), .int .i64 ((cd : Nat) : Int)]) := by show World.rangeAt _ _ _ _; rw [hwe2]; exact World.rangeAt_setCells_same _ _ _ _ hth2
            clear hwe1 hwe2 hrs1 hm1 hf1
            go_wp2_with (first | (refine wpList_store_mid rfl 24 _ _ rfl b0 0 #[.slice none 0 0] rfl rfl hth1 (by kernel_rfl) (by simp [Value.oneCell']) ?_; first | rw [← HW1.out] | (simp only [List.toList_toArray]; rw [← HW1.out])) | (refine wpList_store_mid rfl 26 _ _ rfl (b0 + 1) 0 #[.int .i64 ((k + 1 : Nat) : Int), .int .i64 ((cd : Nat) : Int)] (by first | rfl | (simp [Act.eval] <;> go_num)) rfl hth2 (by kernel_rfl) (by simp [Value.oneCell']) ?_; first | rw [← HW2.out] | (simp only [List.toList_toArray]; rw [← HW2.out])))
            try simp only [Act.put]
            have hr1 := HR1.out
            have hr2 := HR2.out
            refine bodyPost_ret (v := .tuple #[.agg #[.slice none 0 0], .agg #[.int .i64 ((k + 1 : Nat) : Int), .int .i64 ((cd : Nat) : Int)]]) (by simp [results, Tryz.results4, asAddr, run_loadVar_mid (P := Tryz.prog) _ _ _ 24 [.slice none 0 0] _ hr1 Tryz.underlying24 rfl (by kernel_rfl), run_loadVar_mid (P := Tryz.prog) _ _ _ 26 [.int .i64 ((k + 1 : Nat) : Int), .int .i64 ((cd : Nat) : Int)] _ hr2 Tryz.underlying26 rfl (by kernel_rfl)]) rfl ?_
            rw [HW2.out, HW1.out]
            exact ansFault (k + 1) (cd) _ _ HE.out HBZ.out HN2.out.bel
        have d1 : ((ws.length : Int) == 1) = true := by rw [hone]; rfl
        have d4 : (0 : Int) < (ws.length : Int) := by omega
        cases hke : (k0.toList == [101, 110, 100])
        · have dE : (k0.toList == [101, 110, 100]) = false := hke
          have HIE : Hid (Pl.isEnd st ws = false) := by show _ = _; unfold Pl.isEnd; rw [← hk0, hke]; simp
          clear hk0 hke
          have HW : Hid (Pl.wordsC st ws = Pl.insideC st.cur ws ∧ Pl.wordsS st ws = ⟨st.acc, Pl.insideB st.cur ws, true⟩) := Pl.words_in hw0 HIE.out hop
          have xz := HP.out.b.own.lt
          have xa' := HP.out.b.at_
          have HCA := uh (l39InsideS (S := fun _ => True) (B := b0) (lo := pb + 1) st.cur ws (.slice ca st.cur.lines.length cc) (.slice (some ⟨p2, o2, none⟩) ws.length vc) wy HP.out.bd HWR.out (by omega) (by omega) HWZ.out (by have := HOK.out.cl; have := HN.out; omega) xz)
          rw [hone] at HCA
          go_wp2_with (refine wpList_load_mid rfl 37 _ rfl pb 0 rfl [.string st.cur.kind, .string st.cur.name, .slice ca st.cur.lines.length cc] _ xa' Tryz.underlying37 rfl (by kernel_rfl) ?_)
          refine HCA.out.mono ?_
          rintro e w4 ⟨c4, rfl, hD, hb⟩
          obtain ⟨bb, hbb⟩ : ∃ bb, bb = Pl.insideB st.cur ws := ⟨_, rfl⟩
          obtain ⟨cd, hcd⟩ : ∃ cd, cd = Pl.insideC st.cur ws := ⟨_, rfl⟩
          rw [← hcd]
          rw [← hbb] at HW hD
          obtain ⟨ia, ic, hc, hD2⟩ := dat_block hD
          subst hc
          have HCD := uh hcd
          have HD2 := uh hD2
          replace HP := uh (HP.out.later hb)
          clear hb hbb hcd xz xa' yz yw y2 yp HCA hD hD2 d1 d4 dE hone
          have hth : w4.there pb 0 (#[.string bb.kind, .string bb.name, .slice ia bb.lines.length ic] : Array Value).size := uthere HP.out.b.own _ _ (by simp)
          obtain ⟨we, hwe⟩ : ∃ we, we = w4.setCells pb 0 [.string bb.kind, .string bb.name, .slice ia bb.lines.length ic] := ⟨_, rfl⟩
          have HN2 : Hid (Pz w b0 pb ls (.slice (some ⟨p, o, none⟩) ls.length lc) ⟨st.acc, bb, true⟩ (.slice xa st.acc.length xc) (.slice ia bb.lines.length ic) we) := by show Pz _ _ _ _ _ _ _ _ _; rw [hwe]; exact HP.out.putB HBZ.out HPB.out HD2.out
          have HWE := uh hwe
          clear hwe
          go_upto_region 24 with (refine wpList_store_mid rfl 37 _ _ rfl pb 0 #[.string bb.kind, .string bb.name, .slice ia bb.lines.length ic] rfl rfl hth (by kernel_rfl) (by simp [Value.oneCell']) ?_; first | rw [← HWE.out] | (simp only [List.toList_toArray]; rw [← HWE.out]))
          clear hth HP HWE HD2
          by_cases hcz : cd = 0
          · have d3 : (((cd : Nat) : Int) != 0) = false := by rw [hcz]; rfl
            have HWC : Hid (Pl.wordsC st ws = 0) := by show _ = _; rw [HW.out.1, ← HCD.out]; exact hcz
            have HWS : Hid (Pl.wordsS st ws = ⟨st.acc, bb, true⟩) := HW.out.2
            go_wp2
            go_roundw
            case rel => exact ⟨k + 1, ⟨st.acc, bb, true⟩, _, _, by omega, rfl, by go_num, by have := HOW.out; rw [HWS.out] at this; exact this, by rw [HQW.out, if_pos HWC.out, HWS.out], HN2.out⟩
            case measure => simp [intOf]; omega
          · have d3 : (((cd : Nat) : Int) != 0) = true := by simp; omega
            have HE : Hid (Pl.parseOut t = ([], k + 1, cd)) := by show _ = _; rw [HQW.out, HW.out.1, ← HCD.out, if_neg hcz]
            have hth1 : we.there b0 0 (#[.slice none 0 0] : Array Value).size := uthere (HN2.out.res).own _ _ (by simp)
            obtain ⟨we1, hwe1⟩ : ∃ we1, we1 = we.setCells b0 0 [.slice none 0 0] := ⟨_, rfl⟩
            have HW1 := uh hwe1
            have hm1 : Marks (fun b => b = b0) we we1 := by rw [hwe1]; exact mks_scs (S := fun b => b = b0) rfl _ _ _
            have hf1 := (HN2.out.flt).mks hm1 (by omega)
            have hth2 : we1.there (b0 + 1) 0 (#[.int .i64 ((k + 1 : Nat) : Int), .int .i64 ((cd : Nat) : Int)] : Array Value).size := uthere hf1.own _ _ (by simp)
            obtain ⟨we2, hwe2⟩ : ∃ we2, we2 = we1.setCells (b0 + 1) 0 [.int .i64 ((k + 1 : Nat) : Int), .int .i64 ((cd : Nat) : Int)] := ⟨_, rfl⟩
            have HW2 := uh hwe2
            have hrs1 : we1.rangeAt b0 0 [.slice none 0 0] := by rw [hwe1]; exact World.rangeAt_setCells_same _ _ _ _ hth1
            have HR1 : Hid (we2.rangeAt b0 0 [.slice none 0 0]) := by
              show World.rangeAt _ _ _ _
              have hb1 : WBox we1 b0 24 [.slice none 0 0] := ⟨by rw [hwe1]; exact own_scs _ _ _ (HN2.out.res).own, hrs1⟩
              have hm2 : Marks (fun b => b = b0 + 1) we1 we2 := by rw [hwe2]; exact mks_scs (S := fun b => b = b0 + 1) rfl _ _ _
              exact (hb1.mks hm2 (by omega)).at_
            have HR2 : Hid (we2.rangeAt (b0 + 1) 0 [.int .i64 ((k + 1 : Nat) : Int), .int .i64 ((cd : Nat) : Int)]) := by show World.rangeAt _ _ _ _; rw [hwe2]; exact World.rangeAt_setCells_same _ _ _ _ hth2
            clear hwe1 hwe2 hrs1 hm1 hf1
            go_wp2_with (first | (refine wpList_store_mid rfl 24 _ _ rfl b0 0 #[.slice none 0 0] rfl rfl hth1 (by kernel_rfl) (by simp [Value.oneCell']) ?_; first | rw [← HW1.out] | (simp only [List.toList_toArray]; rw [← HW1.out])) | (refine wpList_store_mid rfl 26 _ _ rfl (b0 + 1) 0 #[.int .i64 ((k + 1 : Nat) : Int), .int .i64 ((cd : Nat) : Int)] (by first | rfl | (simp [Act.eval] <;> go_num)) rfl hth2 (by kernel_rfl) (by simp [Value.oneCell']) ?_; first | rw [← HW2.out] | (simp only [List.toList_toArray]; rw [← HW2.out])))
            try simp only [Act.put]
            have hr1 := HR1.out
            have hr2 := HR2.out
            refine bodyPost_ret (v := .tuple #[.agg #[.slice none 0 0], .agg #[.int .i64 ((k + 1 : Nat) : Int), .int .i64 ((cd : Nat) : Int)]]) (by simp [results, Tryz.results4, asAddr, run_loadVar_mid (P := Tryz.prog) _ _ _ 24 [.slice none 0 0] _ hr1 Tryz.underlying24 rfl (by kernel_rfl), run_loadVar_mid (P := Tryz.prog) _ _ _ 26 [.int .i64 ((k + 1 : Nat) : Int), .int .i64 ((cd : Nat) : Int)] _ hr2 Tryz.underlying26 rfl (by kernel_rfl)]) rfl ?_
            rw [HW2.out, HW1.out]
            exact ansFault (k + 1) (cd) _ _ HE.out HBZ.out HN2.out.bel
        · have dE : (k0.toList == [101, 110, 100]) = true := hke
          have HIE : Hid (Pl.isEnd st ws = true) := by show _ = _; unfold Pl.isEnd; rw [← hk0, hke, hop, decide_eq_true hone]; rfl
          clear hk0 hke
          have HW : Hid (Pl.wordsC st ws = 0 ∧ Pl.wordsS st ws = ⟨Pl.putBl st.acc st.cur, st.cur, false⟩) := Pl.words_end hw0 HIE.out
          have HWC := uh HW.out.1
          have HWS := uh HW.out.2
          have xz := HP.out.s.own.lt
          have xa' := HP.out.s.at_
          have yz2 := HP.out.b.own.lt
          have ya' := HP.out.b.at_
          have HCA := uh (l39PutBlockD (S := fun _ => True) (B := b0) (lo := pb + 1) st.acc st.cur (.slice xa st.acc.length xc) (.slice ca st.cur.lines.length cc) wy HP.out.sd HP.out.bd (by have := HOK.out.al; have := HN.out; omega) yz2)
          go_wp2_with (first | (refine wpList_load_mid rfl 24 _ rfl (b0 + 2) 0 rfl [.slice xa st.acc.length xc] _ xa' Tryz.underlying24 rfl (by kernel_rfl) ?_) | (refine wpList_load_mid rfl 37 _ rfl pb 0 rfl [.string st.cur.kind, .string st.cur.name, .slice ca st.cur.lines.length cc] _ ya' Tryz.underlying37 rfl (by kernel_rfl) ?_))
          refine HCA.out.mono ?_
          rintro e w4 ⟨c4, rfl, hD, hb⟩
          obtain ⟨xa2, xc2, hc, hD2⟩ := dat_sheet hD
          subst hc
          have HD2 := uh hD2
          replace HP := uh (HP.out.later hb)
          clear hb xz xa' yz2 ya' yz yw y2 yp HCA hD hD2 d1 dE d4 hone
          have hth : w4.there (b0 + 2) 0 (#[.slice xa2 (Pl.putBl st.acc st.cur).length xc2] : Array Value).size := uthere HP.out.s.own _ _ (by simp)
          obtain ⟨we, hwe⟩ : ∃ we, we = w4.setCells (b0 + 2) 0 [.slice xa2 (Pl.putBl st.acc st.cur).length xc2] := ⟨_, rfl⟩
          have HN2 : Hid (Pz w b0 pb ls (.slice (some ⟨p, o, none⟩) ls.length lc) ⟨Pl.putBl st.acc st.cur, st.cur, false⟩ (.slice xa2 (Pl.putBl st.acc st.cur).length xc2) (.slice ca st.cur.lines.length cc) we) := by show Pz _ _ _ _ _ _ _ _ _; rw [hwe]; exact HP.out.putS HBZ.out HPB.out HD2.out
          have HWE := uh hwe
          clear hwe
          go_upto_region 24 with (refine wpList_store_mid rfl 24 _ _ rfl (b0 + 2) 0 #[.slice xa2 (Pl.putBl st.acc st.cur).length xc2] rfl rfl hth (by kernel_rfl) (by simp [Value.oneCell']) ?_; first | rw [← HWE.out] | (simp only [List.toList_toArray]; rw [← HWE.out]))
          clear hth HP HWE HD2
          go_wp2
          go_roundw
          case rel => exact ⟨k + 1, ⟨Pl.putBl st.acc st.cur, st.cur, false⟩, _, _, by omega, rfl, by go_num, by have := HOW.out; rw [HWS.out] at this; exact this, by rw [HQW.out, if_pos HWC.out, HWS.out], HN2.out⟩
          case measure => simp [intOf]; omega

end Go.Proofs.YtdllbcafbfkngaaGreatDoor
