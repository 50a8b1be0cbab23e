/-
  Stewards: those of a service's live copies that are old, drained or failed, by the specification.
-/
import Derived.RegionTactic
import Derived.Test.YtamhfnlogldpaaaGreatStR
import Derived.Test.YtamhfnlogldpaaaGreatPut
namespace Go.Proofs.YtamhfnlogldpaaaGreat
open Go.RowKit Go.Deep

theorem BelX.grow {p : Nat} {v W W' : World} {row : Option Nat} (h : BelX p v W) (hg : W.grownBy W' row) (hr : ∀ q, row = some q → q = p ∨ v.heap.size ≤ q) : BelX p v W' :=
  ⟨hg.os.trans h.os, hg.tape.trans h.tape, hg.output.trans h.output, Nat.le_trans h.size hg.size, fun q hq hn => (hg.block q (Nat.lt_of_lt_of_le hq h.size) (fun e => by
    rcases hr q e.symm with h1 | h1
    · exact hn h1
    · omega)).trans (h.block q hq hn)⟩

theorem Box4.bx {p b : Nat} {v W : World} {v0 v1 v2 v3 : Value} (h : Box4 v b v0 v1 v2 v3) (hx : BelX p v W) (hn : b ≠ p) : Box4 W b v0 v1 v2 v3 :=
  ⟨Nat.lt_of_lt_of_le h.lt hx.size, (hx.cell h.lt hn _).trans h.x0, (hx.cell h.lt hn _).trans h.x1, (hx.cell h.lt hn _).trans h.x2, (hx.cell h.lt hn _).trans h.x3⟩
theorem Box13.bx {p b : Nat} {v W : World} {v0 v1 v2 v3 v4 v5 v6 v7 v8 v9 v10 v11 v12 : Value} (h : Box13 v b v0 v1 v2 v3 v4 v5 v6 v7 v8 v9 v10 v11 v12) (hx : BelX p v W) (hn : b ≠ p) : Box13 W b v0 v1 v2 v3 v4 v5 v6 v7 v8 v9 v10 v11 v12 :=
  ⟨Nat.lt_of_lt_of_le h.lt hx.size, (hx.cell h.lt hn _).trans h.x0, (hx.cell h.lt hn _).trans h.x1, (hx.cell h.lt hn _).trans h.x2, (hx.cell h.lt hn _).trans h.x3, (hx.cell h.lt hn _).trans h.x4, (hx.cell h.lt hn _).trans h.x5, (hx.cell h.lt hn _).trans h.x6, (hx.cell h.lt hn _).trans h.x7, (hx.cell h.lt hn _).trans h.x8, (hx.cell h.lt hn _).trans h.x9, (hx.cell h.lt hn _).trans h.x10, (hx.cell h.lt hn _).trans h.x11, (hx.cell h.lt hn _).trans h.x12⟩

/-- Old, drained, failed. -/
def pick16 (K : SBk) (s : Sv) (which : Int) (c : Cp) : Bool := if which = 2 then (c.image != s.image) else if which = 6 then drains K c else (c.state == 4)
def pickP (K : SBk) (s : Sv) (which : Int) (z : Nat) : Bool := pick16 K s which (K.cps.getD z Cp.none)
def someOf (K : SBk) (s : Sv) (which : Int) : List Nat := (liveOf K s.nm).filter (pickP K s which)

set_option maxRecDepth 8000 in
set_option maxHeartbeats 16000000 in
theorem l16SomeS (K : SBk) (a0 a1 a2 : Option Addr) (c0 c1 c2 : Nat) (s : Sv) (which : Int) (hwh : which = 2 ∨ which = 6 ∨ which = 3) (w : World) (h : SBkV w a0 a1 a2 K) (hc : K.cps.length ≤ 1048576) :
    Calls Tryz.prog 49 #[.agg #[.int .i64 K.now, .slice a0 K.svcs.length c0, .slice a1 K.cps.length c1, .slice a2 K.bts.length c2], .agg #[.string s.nm, .int .i64 s.ver, .bool s.gone, .int .i64 s.image, .int .i64 s.want, .int .i64 s.down, .int .i64 s.over, .int .i64 s.next, .int .i64 s.per, .int .i64 s.least, .int .i64 s.most, .int .i64 s.load, .int .i64 s.cool], .int .i64 which] w fun e w' => (∃ v, e = .returned v ∧ w'.ownsRow w.heap.size 3 1 v (someOf K s which).length (nums (someOf K s which))) ∧ Below w.heap.size w w' := by
  have HH : Hid (SBkV w a0 a1 a2 K) := h
  obtain ⟨i0, hi, hz0, hz1, hz2⟩ := info_parts intInfo
  clear h
  obtain ⟨wa, hwa⟩ : ∃ wa, wa = (w.alloc (.cells #[.int .i64 K.now, .slice a0 K.svcs.length c0, .slice a1 K.cps.length c1, .slice a2 K.bts.length c2] 34)).alloc (.cells #[.string s.nm, .int .i64 s.ver, .bool s.gone, .int .i64 s.image, .int .i64 s.want, .int .i64 s.down, .int .i64 s.over, .int .i64 s.next, .int .i64 s.per, .int .i64 s.least, .int .i64 s.most, .int .i64 s.load, .int .i64 s.cool] 50) := ⟨_, rfl⟩
  have HB : Hid (Below w.heap.size w wa) := by show Below _ _ _; rw [hwa]; exact blw_alloc (blw_alloc (Below.refl _ _) _) _
  have HX : Hid (Box4 wa w.heap.size (.int .i64 K.now) (.slice a0 K.svcs.length c0) (.slice a1 K.cps.length c1) (.slice a2 K.bts.length c2)) := by show Box4 _ _ _ _ _ _; rw [hwa]; exact (Box4.new' w _ _ _ _ _ _ rfl).past _
  have HY : Hid (Box13 wa (w.heap.size + 1) (.string s.nm) (.int .i64 s.ver) (.bool s.gone) (.int .i64 s.image) (.int .i64 s.want) (.int .i64 s.down) (.int .i64 s.over) (.int .i64 s.next) (.int .i64 s.per) (.int .i64 s.least) (.int .i64 s.most) (.int .i64 s.load) (.int .i64 s.cool)) := by show Box13 _ _ _ _ _ _ _ _ _ _ _ _ _ _ _ ; rw [hwa]; exact Box13.new' _ _ _ _ _ _ _ _ _ _ _ _ _ _ _ _  (by simp)
  go_enter Tryz.func49, Tryz.ntmps49
  go_upto_region 1 with fail
  rw [← hwa]
  have hs1 : w.heap.size + 1 < wa.heap.size := HY.out.lt
  clear hwa
  obtain ⟨wb, hwb⟩ : ∃ wb, wb = wa.alloc (.cells #[] 3) := ⟨_, rfl⟩
  have hbb : Below wa.heap.size wa wb := by rw [hwb]; exact blw_alloc (Below.refl _ _) _
  have hsb : wb.heap.size = wa.heap.size + 1 := by rw [hwb]; simp
  have HOb : Hid (wb.ownsRow wa.heap.size 3 1 (.slice (some ⟨wa.heap.size, 0, none⟩) 0 0) 0 (nums [])) := by show World.ownsRow _ _ _ _ _ _ _; rw [hwb]; exact World.ownsRow_made wa #[] 0 (Nat.le_refl _) (by decide) rfl
  have HXb := hid (HX.out.later hbb)
  have HYb := hid (HY.out.later hbb)
  have HBb := hid (blw_trans HB.out hbb)
  go_upto_region 2 with fail
  rw [← hwb]
  clear hwb hbb HX HY HB
  obtain ⟨yz, y0, y1, y2, y3⟩ := HXb.out
  obtain ⟨sz, s0, _, _, _, _, _, _, _, _, _, _, _, _⟩ := HYb.out
  go_wp2_with fail
  refine (l16LiveS K a0 a1 a2 c0 c1 c2 s.nm wb (HH.out.later HBb.out) hc).mono ?_
  rintro e w2 ⟨⟨v8, rfl, hown⟩, hb⟩
  obtain ⟨L, hL⟩ : ∃ L, L = liveOf K s.nm := ⟨_, rfl⟩
  have HZ : Hid (∀ z ∈ L, z < K.cps.length) := fun z hz => by rw [hL] at hz; exact (liveTo_lt _ _ _ _ hz).1
  have HLe := hid hL
  have hlc : L.length ≤ 1048576 := by rw [hL]; exact Nat.le_trans (liveTo_len _ _ _) hc
  rw [← hL] at hown
  obtain ⟨al, cl, hv⟩ := owns_slice hown
  subst hv
  have HL := hid hown
  have HX2 := hid (HXb.out.later hb)
  have HY2 := hid (HYb.out.later hb)
  have HB2 := hid (blw_trans HBb.out hb)
  have HO2 := hid (owns_later HOb.out hb)
  have hs2 : wb.heap.size ≤ w2.heap.size := hb.size
  clear hL hown hb HXb HYb HBb HOb yz y0 y1 y2 y3 sz s0
  go_wp2
  go_loopw [7, 9] (fun v i wr => ∃ (k : Nat), k ≤ L.length ∧ i = .int .i64 k ∧ wr.ownsRow wa.heap.size 3 1 v ((L.take k).filter (pickP K s which)).length (nums ((L.take k).filter (pickP K s which))) ∧ BelX wa.heap.size w2 wr ∧ (∀ q, v.ownBlock = some q → q = wa.heap.size ∨ w2.heap.size ≤ q)) (fun _ i _ => L.length - (intOf i).toNat)
  case atStart => exact ⟨0, Nat.zero_le _, rfl, HO2.out, BelX.refl _ _, fun q hq => by simp only [Value.ownBlock, Option.some.injEq] at hq; exact Or.inl hq.symm⟩
  case round =>
    rename_i v _ _
    obtain ⟨k, hk, rfl, hO, hW, hQ⟩ := hrel
    have HO := hid hO
    have HW := hid hW
    obtain ⟨a, c, hv⟩ := owns_slice hO
    subst hv
    have HQ := hid hQ
    obtain ⟨yz, y0, y1, y2, y3⟩ := HX2.out.bx hW (by omega)
    clear hO hW hQ HO2
    by_cases hlt : k < L.length
    · obtain ⟨g, hav, hgl, hgb, hgc⟩ := own_get HL.out hlt
      subst hav
      have hgn : g ≠ wa.heap.size := by omega
      obtain ⟨z, hzz⟩ : ∃ z, z = L.getD k 0 := ⟨_, rfl⟩
      have hzl : z < K.cps.length := by rw [hzz]; exact HZ.out _ (getD_in hlt)
      rw [← hzz] at hgc
      have hgr := (HW.out.cell hgl hgn k).trans hgc
      have HBr : Hid (Below w.heap.size w wr) := HW.out.below HB2.out (by omega)
      have hgr2 : g < wr.heap.size := by have := HW.out.size; omega
      obtain ⟨b1, off1, ha1, hbl1, hf1⟩ := HH.out.c.at_ z hzl
      have hbr2 : b1 < wr.heap.size := by have := HBr.out.size; omega
      have hf1 := hf1.later HBr.out hbl1
      subst ha1
      obtain ⟨y, hy⟩ : ∃ y, y = K.cps.getD z Cp.none := ⟨_, rfl⟩
      rw [← hy] at hf1
      have HS : Hid ((L.take (k + 1)).filter (pickP K s which) = (L.take k).filter (pickP K s which) ++ (if pick16 K s which y then [z] else [])) := by
        show _ = _
        rw [filt_take _ hlt, ← hzz, pickP, ← hy]
      have hle := filt_len (pickP K s which) L k
      obtain ⟨M, hM⟩ : ∃ M, M = (L.take k).filter (pickP K s which) := ⟨_, rfl⟩
      rw [← hM] at HO HS hle HQ ⊢
      obtain ⟨e0, e1, e2, e3, e4, e5, e6, _⟩ := hf1
      clear hy hzz hM
      have hm0 : (0 : Int) ≤ (k : Int) := by omega
      have hm3 : (k : Int) < (L.length : Int) := by omega
      have hm4 : (0 : Int) ≤ (z : Int) := by omega
      have hm5 : (z : Int) < (K.cps.length : Int) := by omega
      go_wp2_with fail
      go_region
      obtain ⟨w8, hw8⟩ : ∃ w8, w8 = (wr.alloc (.cells #[.string y.svc, .int .i64 y.num, .int .i64 y.ver, .int .i64 y.image, .int .i64 y.state, .bool y.ending, .string y.berth] 84)).drew := ⟨_, rfl⟩
      obtain ⟨p8, hp8⟩ : ∃ p8, p8 = wr.heap.size := ⟨_, rfl⟩
      have hb8 : Below wr.heap.size wr w8 := by rw [hw8]; exact Below.drew (blw_alloc (Below.refl _ _) _)
      have HW8 := hid (HW.out.on hb8)
      have HO8 := hid (owns_later HO.out hb8)
      have HC8 : Hid (Box7 w8 p8 (.string y.svc) (.int .i64 y.num) (.int .i64 y.ver) (.int .i64 y.image) (.int .i64 y.state) (.bool y.ending) (.string y.berth)) := by show Box7 _ _ _ _ _ _ _ _ _; rw [hw8]; exact (Box7.new' wr _ _ _ _ _ _ _ _ _ hp8).later (Below.drew (Below.refl _ _))
      have HB8 := hid (blw_trans HBr.out hb8)
      rw [← hw8, ← hp8]
      clear hw8 hp8 hb8 HW HO HBr yz y0 y1 y2 y3 e0 e1 e2 e3 e4 e5 e6 hgr hbl1 hgr2 hbr2
      obtain ⟨yz, y0, y1, y2, y3⟩ := HX2.out.bx HW8.out (by omega)
      obtain ⟨kz, k0, k1, k2, k3, k4, k5, k6⟩ := HC8.out
      obtain ⟨sz, s0, s1, s2, s3, _, _, _, _, _, _, _, _, _⟩ := HY2.out.bx HW8.out (by omega)
      have hs8 : wa.heap.size ≤ w8.heap.size := by have := HW8.out.size; omega
      rcases hwh with rfl | rfl | rfl
      · cases g4 : (y.image == s.image)
        · have g5 : (y.image != s.image) = true := by simp [bne, g4]
          have HN : Hid ((L.take (k + 1)).filter (pickP K s 2) = M ++ [z]) := by show _ = _; rw [HS.out]; simp [pick16, g5]
          clear HS
          have hgW := (HW8.out.cell hgl hgn k).trans hgc
          have hsW : w2.heap.size ≤ w8.heap.size := HW8.out.size
          go_wp2_with (at_builtin; refine wpList_append_lies _ rfl _ _ 87 rfl wa.heap.size 3 i0 (.int .i64 0) 1 8 Tryz.underInts hi hz0 hz1 hz2 rfl (by decide) (.slice a M.length c) M.length (nums M) rfl ?c0 ⟨w8.heap.size, 0, none⟩ 1 1 [.int .i64 (z : Nat)] rfl ?c1 ?c2 ?c3 (by decide) ?c4 ?c5 ?c6 (w8.heap.size + 1) ?c7 ?_)
          case c0 => exact owns_later HO8.out (blw_alloc (Below.refl _ _) _)
          case c1 => rfl
          case c2 =>
            intro j u hj
            match j, hj with
            | 0, hj => simp at hj; subst hj; simp [Addr.add]
            | k + 1, hj => simp at hj
          case c3 => intro u hu; simp at hu; subst hu; rfl
          case c4 => unfold maxLen; omega
          case c5 => omega
          case c6 => simp; omega
          case c7 => simp
          intro gg cap w3 hown hgrow hat _
          have hbt : Below w8.heap.size w8 (w8.alloc (.cells #[.int .i64 (z : Nat)] 3)) := blw_alloc (Below.refl _ _) _
          have HN2 : Hid (w3.ownsRow wa.heap.size 3 1 (.slice (some ⟨gg, 0, none⟩) (M.length + 1) cap) (M ++ [z]).length (nums (M ++ [z]))) := by
            show World.ownsRow _ _ _ _ _ _ _
            simpa [nums] using hown
          have HB3 : Hid (BelX wa.heap.size w2 w3) := BelX.grow (HW8.out.on hbt) hgrow HQ.out
          have HQ3 : Hid (∀ q, (Value.slice (some ⟨gg, 0, none⟩) (M.length + 1) cap).ownBlock = some q → q = wa.heap.size ∨ w2.heap.size ≤ q) := by
            intro q hq
            simp only [Value.ownBlock, Option.some.injEq] at hq
            subst hq
            rcases hat with h1 | h1
            · exact HQ.out _ h1
            · right; omega
          clear hown hgrow hbt HO8 hat
          go_wp2
          go_roundw
          case rel => exact ⟨k + 1, by omega, by go_num, by rw [HN.out]; exact HN2.out, HB3.out, HQ3.out⟩
          case measure => simp [intOf]; omega
        · have g5 : (y.image != s.image) = false := by simp [bne, g4]
          have HN : Hid ((L.take (k + 1)).filter (pickP K s 2) = M) := by show _ = _; rw [HS.out]; simp [pick16, g5]
          clear HS
          go_wp2
          go_roundw
          case rel => exact ⟨k + 1, by omega, by go_num, by rw [HN.out]; exact HO8.out, HW8.out, HQ.out⟩
          case measure => simp [intOf]; omega
      · go_wp2_with fail
        refine (l16DrainsS K a0 (some ⟨b1, off1, none⟩) a2 c0 c1 c2 y w8 (HH.out.later HB8.out)).mono ?_
        rintro e w9 ⟨rfl, hb9⟩
        have HW9 := hid (HW8.out.on hb9)
        have HO9 := hid (owns_later HO8.out hb9)
        have hs9 : wa.heap.size ≤ w9.heap.size := by have := HW9.out.size; omega
        clear hb9 HW8 HO8 HC8 HB8 yz y0 y1 y2 y3 kz k0 k1 k2 k3 k4 k5 k6 sz s0 s1 s2 s3
        cases gd : drains K y
        · have HN : Hid ((L.take (k + 1)).filter (pickP K s 6) = M) := by show _ = _; rw [HS.out]; simp [pick16, gd]
          clear HS
          go_wp2
          go_roundw
          case rel => exact ⟨k + 1, by omega, by go_num, by rw [HN.out]; exact HO9.out, HW9.out, HQ.out⟩
          case measure => simp [intOf]; omega
        · have HN : Hid ((L.take (k + 1)).filter (pickP K s 6) = M ++ [z]) := by show _ = _; rw [HS.out]; simp [pick16, gd]
          clear HS
          have hgW := (HW9.out.cell hgl hgn k).trans hgc
          have hsW : w2.heap.size ≤ w9.heap.size := HW9.out.size
          go_wp2_with (at_builtin; refine wpList_append_lies _ rfl _ _ 87 rfl wa.heap.size 3 i0 (.int .i64 0) 1 8 Tryz.underInts hi hz0 hz1 hz2 rfl (by decide) (.slice a M.length c) M.length (nums M) rfl ?c0 ⟨w9.heap.size, 0, none⟩ 1 1 [.int .i64 (z : Nat)] rfl ?c1 ?c2 ?c3 (by decide) ?c4 ?c5 ?c6 (w9.heap.size + 1) ?c7 ?_)
          case c0 => exact owns_later HO9.out (blw_alloc (Below.refl _ _) _)
          case c1 => rfl
          case c2 =>
            intro j u hj
            match j, hj with
            | 0, hj => simp at hj; subst hj; simp [Addr.add]
            | k + 1, hj => simp at hj
          case c3 => intro u hu; simp at hu; subst hu; rfl
          case c4 => unfold maxLen; omega
          case c5 => omega
          case c6 => simp; omega
          case c7 => simp
          intro gg cap w3 hown hgrow hat _
          have hbt : Below w9.heap.size w9 (w9.alloc (.cells #[.int .i64 (z : Nat)] 3)) := blw_alloc (Below.refl _ _) _
          have HN2 : Hid (w3.ownsRow wa.heap.size 3 1 (.slice (some ⟨gg, 0, none⟩) (M.length + 1) cap) (M ++ [z]).length (nums (M ++ [z]))) := by
            show World.ownsRow _ _ _ _ _ _ _
            simpa [nums] using hown
          have HB3 : Hid (BelX wa.heap.size w2 w3) := BelX.grow (HW9.out.on hbt) hgrow HQ.out
          have HQ3 : Hid (∀ q, (Value.slice (some ⟨gg, 0, none⟩) (M.length + 1) cap).ownBlock = some q → q = wa.heap.size ∨ w2.heap.size ≤ q) := by
            intro q hq
            simp only [Value.ownBlock, Option.some.injEq] at hq
            subst hq
            rcases hat with h1 | h1
            · exact HQ.out _ h1
            · right; omega
          clear hown hgrow hbt HO9 hat
          go_wp2
          go_roundw
          case rel => exact ⟨k + 1, by omega, by go_num, by rw [HN.out]; exact HN2.out, HB3.out, HQ3.out⟩
          case measure => simp [intOf]; omega
      · by_cases hst : y.state = 4
        · have q2 : (y.state == 4) = true := by simp [hst]
          rw [hst] at k4
          have HN : Hid ((L.take (k + 1)).filter (pickP K s 3) = M ++ [z]) := by show _ = _; rw [HS.out]; simp [pick16, q2]
          clear HS
          have hgW := (HW8.out.cell hgl hgn k).trans hgc
          have hsW : w2.heap.size ≤ w8.heap.size := HW8.out.size
          go_wp2_with (at_builtin; refine wpList_append_lies _ rfl _ _ 87 rfl wa.heap.size 3 i0 (.int .i64 0) 1 8 Tryz.underInts hi hz0 hz1 hz2 rfl (by decide) (.slice a M.length c) M.length (nums M) rfl ?c0 ⟨w8.heap.size, 0, none⟩ 1 1 [.int .i64 (z : Nat)] rfl ?c1 ?c2 ?c3 (by decide) ?c4 ?c5 ?c6 (w8.heap.size + 1) ?c7 ?_)
          case c0 => exact owns_later HO8.out (blw_alloc (Below.refl _ _) _)
          case c1 => rfl
          case c2 =>
            intro j u hj
            match j, hj with
            | 0, hj => simp at hj; subst hj; simp [Addr.add]
            | k + 1, hj => simp at hj
          case c3 => intro u hu; simp at hu; subst hu; rfl
          case c4 => unfold maxLen; omega
          case c5 => omega
          case c6 => simp; omega
          case c7 => simp
          intro gg cap w3 hown hgrow hat _
          have hbt : Below w8.heap.size w8 (w8.alloc (.cells #[.int .i64 (z : Nat)] 3)) := blw_alloc (Below.refl _ _) _
          have HN2 : Hid (w3.ownsRow wa.heap.size 3 1 (.slice (some ⟨gg, 0, none⟩) (M.length + 1) cap) (M ++ [z]).length (nums (M ++ [z]))) := by
            show World.ownsRow _ _ _ _ _ _ _
            simpa [nums] using hown
          have HB3 : Hid (BelX wa.heap.size w2 w3) := BelX.grow (HW8.out.on hbt) hgrow HQ.out
          have HQ3 : Hid (∀ q, (Value.slice (some ⟨gg, 0, none⟩) (M.length + 1) cap).ownBlock = some q → q = wa.heap.size ∨ w2.heap.size ≤ q) := by
            intro q hq
            simp only [Value.ownBlock, Option.some.injEq] at hq
            subst hq
            rcases hat with h1 | h1
            · exact HQ.out _ h1
            · right; omega
          clear hown hgrow hbt HO8 hat
          go_wp2
          go_roundw
          case rel => exact ⟨k + 1, by omega, by go_num, by rw [HN.out]; exact HN2.out, HB3.out, HQ3.out⟩
          case measure => simp [intOf]; omega
        · have q2 : (y.state == 4) = false := by simpa using hst
          have HN : Hid ((L.take (k + 1)).filter (pickP K s 3) = M) := by show _ = _; rw [HS.out]; simp [pick16, q2]
          clear HS
          go_wp2
          go_roundw
          case rel => exact ⟨k + 1, by omega, by go_num, by rw [HN.out]; exact HO8.out, HW8.out, HQ.out⟩
          case measure => simp [intOf]; omega
    · obtain rfl : k = L.length := by omega
      have HOe : Hid (wr.ownsRow wa.heap.size 3 1 (.slice a ((L.take L.length).filter (pickP K s which)).length c) (someOf K s which).length (nums (someOf K s which))) := by show World.ownsRow _ _ _ _ _ _ _; have := HO.out; rw [List.take_length] at this ⊢; rw [someOf, ← HLe.out]; exact this
      have HBr : Hid (Below w.heap.size w wr) := HW.out.below HB2.out (by omega)
      go_wp2
      go_ret
      exact ⟨⟨_, rfl, owns_base HOe.out (by omega)⟩, HBr.out⟩

end Go.Proofs.YtamhfnlogldpaaaGreat
