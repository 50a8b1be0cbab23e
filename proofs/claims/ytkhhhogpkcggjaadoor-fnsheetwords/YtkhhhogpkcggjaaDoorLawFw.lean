/-
  The law of words (promise 46): words written and cut again.
-/
import Derived.Test.YtkhhhogpkcggjaaDoorEDd
import Derived.Test.YtkhhhogpkcggjaaDoorEPq
import Derived.Test.YtkhhhogpkcggjaaDoorEWw
import Derived.Test.YtkhhhogpkcggjaaDoorEIs
import Derived.Test.YtkhhhogpkcggjaaDoorEIw
import Derived.Test.YtkhhhogpkcggjaaDoorECn
namespace Go.Proofs.YtkhhhogpkcggjaaDoor
open Go.RowKit Go.Deep

def cutW (l : List UInt8) : List ByteArray := (Pl.cutL l 0).getD []
def cutB (l : List UInt8) : Bool := (Pl.cutL l 0).isNone
theorem cutD_eq (l : List UInt8) : cutD l = [.row (cutW l).length (txD (cutW l)), .b (cutB l)] := by
  unfold cutD cutW cutB
  cases Pl.cutL l 0 <;> rfl
theorem cutW_len (l : List UInt8) : (cutW l).length ≤ 8 := by
  unfold cutW
  cases h : Pl.cutL l 0 with
  | none => simp
  | some ws => have := cutL_len l.length l 0 (Nat.le_refl _) (by omega) ws h; simpa using this
theorem cutW_size (l : List UInt8) : ∀ w ∈ cutW l, w.size ≤ 200 := by
  unfold cutW
  cases h : Pl.cutL l 0 with
  | none => intro w hw; simp at hw
  | some ws => intro w hw; exact Pl.cut_sizes l.length l 0 (Nat.le_refl _) ws h w (by simpa using hw)
/-- What an answer of words is, told by its parts. -/
theorem ans_cut {l : List UInt8} {W : World} {e : Ending} {W' : World} (h : Ans shSheetCut (cutD l) W e W') : ∃ a c, e = .returned (.agg #[.slice a (cutW l).length c, .bool (cutB l)]) ∧ Raw W' [.row 9 [.s]] [.row (cutW l).length (txD (cutW l))] [.slice a (cutW l).length c] ∧ Below W.heap.size W W' := by
  obtain ⟨cs, F, he, hr, _, _, hb⟩ := h
  rw [cutD_eq] at hr
  have hR := hr.raw
  obtain ⟨v, x, hc, h1, h2⟩ := hR.c_r
  obtain ⟨y, hy, h3⟩ := h2.c_b
  obtain rfl := h3.c_n
  subst hy; subst hc
  obtain ⟨a, c, hv⟩ := h1.len0
  subst hv
  exact ⟨a, c, he, h1, hb⟩
theorem line_take (ws : List ByteArray) (k : Nat) (h : k < ws.length) : Pl.lineL (ws.take (k + 1)) = Pl.lineL (ws.take k) ++ (Pl.wordL (ws.getD k ⟨#[]⟩).data.toList ++ [32]) := by
  have e : ws.getD k ⟨#[]⟩ = ws[k] := by simp [h]
  rw [List.take_succ_eq_append_getElem h, Pl.lineL, List.flatMap_append, e]
  simp [Pl.lineL]
theorem line_len : ∀ ws : List ByteArray, (∀ w ∈ ws, w.size ≤ 200) → (Pl.lineL ws).length ≤ 700 * ws.length
  | [], _ => by simp [Pl.lineL]
  | w :: ws, h => by
    have h1 := h w (List.mem_cons_self ..)
    have h2 := line_len ws (fun x hx => h x (List.mem_cons_of_mem _ hx))
    have h3 := wordOut_size w
    have h4 : (Pl.wordL w.data.toList).length = (Pl.wordOut w).size := by unfold Pl.wordOut; rfl
    have e : Pl.lineL (w :: ws) = (Pl.wordL w.data.toList ++ [32]) ++ Pl.lineL ws := rfl
    rw [e, List.length_append, List.length_append]
    simp only [List.length_cons, List.length_nil]
    omega

set_option maxRecDepth 8000 in
set_option maxHeartbeats 8000000 in
theorem lawWords (v : Value) (W : World) (h : CodeAt W v) :
    Calls Tryd.prog 3 #[v] W fun e w' => e = .returned (.bool true) ∧ Below W.heap.size W w' := by
  have HCO := uh h
  obtain ⟨a, n, c, hv⟩ : ∃ a n c, v = .slice a n c := by rcases h with ⟨a, c, e⟩ | ⟨b, off, n, cap, e, _⟩; exact ⟨_, _, _, e⟩; exact ⟨_, _, _, e⟩
  subst hv
  clear h
  go_enter Tryd.func3, Tryd.ntmps3
  by_cases hbig : (1048576 : Int) < (n : Int)
  · go_wp2
    go_ret
    exact ⟨rfl, Below.refl _ _⟩
  have HD := uh (drawWords _ W HCO.out)
  go_wp2_with fail
  refine HD.out.mono ?_
  rintro e W1 ⟨⟨s, rfl, hs⟩, hb1⟩
  have HB1 := uh hb1
  clear HD hb1
  have HI := uh (sheetWordsI s W1 (by omega))
  go_wp2_with fail
  refine HI.out.mono ?_
  intro e W2 hans
  obtain ⟨a1, c1, rfl, hr1, hb2⟩ := ans_cut hans
  obtain ⟨ws, hws⟩ : ∃ ws, ws = cutW s.data.toList := ⟨_, rfl⟩
  obtain ⟨bd, hbd⟩ : ∃ bd, bd = cutB s.data.toList := ⟨_, rfl⟩
  have HL8 : Hid (ws.length ≤ 8) := by show _ ≤ _; rw [hws]; exact cutW_len _
  have HS2 : Hid (∀ w ∈ ws, w.size ≤ 200) := by rw [hws]; exact cutW_size _
  rw [← hws] at hr1
  rw [← hws, ← hbd]
  have HWS := uh hws
  have HBD := uh hbd
  clear hws hbd
  have HR1 := uh hr1
  have HB2 := uh (blw_trans HB1.out hb2)
  clear HI hans hr1 hb2 HB1
  obtain ⟨W3, hW3⟩ : ∃ W3, W3 = W2.alloc (.cells #[.slice a1 ws.length c1, .bool bd] 26) := ⟨_, rfl⟩
  obtain ⟨p, hp⟩ : ∃ p, p = W2.heap.size := ⟨_, rfl⟩
  have hb3 : Below W2.heap.size W2 W3 := by rw [hW3]; exact blw_alloc (Below.refl _ _) _
  have HX3 : Hid (WBox W3 p 26 [.slice a1 ws.length c1, .bool bd]) := by show WBox _ _ _ _; rw [hW3, hp]; exact WBox.new _ _ _ _ rfl
  replace HR1 := uh (HR1.out.later hb3)
  have HB3 := uh (blw_trans HB2.out hb3)
  have HS := uh (sheetWordsS s W3 (by omega))
  clear hb3 HB2
  go_wp2_with fail
  rw [← hW3, ← hp]
  clear hW3 hp
  refine HS.out.mono ?_
  intro e W4 hans
  obtain ⟨a2, c2, rfl, hr2, hb4⟩ := ans_cut hans
  rw [← HWS.out] at hr2
  rw [← HWS.out, ← HBD.out]
  obtain ⟨W5, hW5⟩ : ∃ W5, W5 = W4.alloc (.cells #[.slice a2 ws.length c2, .bool bd] 26) := ⟨_, rfl⟩
  obtain ⟨q, hq⟩ : ∃ q, q = W4.heap.size := ⟨_, rfl⟩
  have hb5 : Below W4.heap.size W4 W5 := by rw [hW5]; exact blw_alloc (Below.refl _ _) _
  have HX5 : Hid (WBox W5 q 26 [.slice a2 ws.length c2, .bool bd]) := by show WBox _ _ _ _; rw [hW5, hq]; exact WBox.new _ _ _ _ rfl
  have hb45 := blw_trans hb4 hb5
  replace HX3 := uh (HX3.out.later hb45)
  replace HR1 := uh (HR1.out.later hb45)
  have HR2 := uh (hr2.later hb5)
  have HB5 := uh (blw_trans HB3.out hb45)
  clear HWS HBD hans hr2 hb4 hb5 hb45 HS HB3
  have y0 := HX3.out.get 0 _ rfl
  have y1 := HX3.out.get 1 _ rfl
  have z0 := HX5.out.get 0 _ rfl
  have z1 := HX5.out.get 1 _ rfl
  have hbb : (bd != bd) = false := by simp
  have HWT := uh (wtWordsL ws a1 a2 c1 c2 W5 HR1.out HR2.out (by have := HL8.out; omega))
  go_upto_region 6 with fail
  rw [← hW5, ← hq]
  clear hW5 hq
  go_wp2_with fail
  refine HWT.out.mono ?_
  rintro e W6 ⟨rfl, hb6⟩
  have HX6 := uh (HX3.out.later hb6)
  have HR6 := uh (HR1.out.later hb6)
  have HB6 := uh (blw_trans HB5.out hb6)
  clear y0 y1 z0 z1 hbb HWT hb6 HX3 HX5 HR1 HR2 HB5
  obtain ⟨m, hm⟩ : ∃ m, m = ws.length := ⟨_, rfl⟩
  have HM := uh hm
  rw [← hm] at HX6 HR6 HL8
  have y0 : W6.cell? ⟨p, 0, none⟩ = some (.slice a1 m c1) := HX6.out.get 0 _ rfl
  try rw [← hm]
  clear hm
  have HXW := uh HX6.out.own.lt
  go_wp2
  go_loopw [6, 7] (fun o i wr => ∃ k : Nat, k ≤ m ∧ i = .int .i64 k ∧ o = .string ⟨(Pl.lineL (ws.take k)).toArray⟩ ∧ Hid (Below W6.heap.size W6 wr)) (fun _ i _ => m - (intOf i).toNat)
  case atStart => exact ⟨0, Nat.zero_le _, rfl, rfl, Below.refl _ _⟩
  case round =>
    obtain ⟨k, hk, rfl, rfl, HBR⟩ := hrel
    obtain ⟨L, hL⟩ : ∃ L, L = Pl.lineL (ws.take k) := ⟨_, rfl⟩
    have hLs : L.length ≤ 700 * k := by
      have := line_len (ws.take k) (fun x hx => HS2.out x (List.mem_of_mem_take hx))
      rw [← hL, List.length_take] at this
      have := Nat.min_le_left k ws.length
      omega
    have HL := uh hL
    rw [← hL]
    clear hL
    have hm8 := HL8.out
    have y1 : wr.cell? ⟨p, 0, none⟩ = some (.slice a1 m c1) := (HBR.out.cell (p := ⟨p, 0, none⟩) HXW.out).trans y0
    clear y0
    by_cases hlt : k < m
    · obtain ⟨p1, o1, e1, hp1, hc1⟩ := tx_cell (ws := ws) (a := a1) (c := c1) (by have := HR6.out.later HBR.out; rw [HM.out] at this; exact this) (k := k) (by have := HM.out; omega)
      subst e1
      obtain ⟨x, hx⟩ : ∃ x, x = ws.getD k ⟨#[]⟩ := ⟨_, rfl⟩
      have hxs : x.size ≤ 200 := by rw [hx]; exact getD_mem ws k (by have := HM.out; omega) 200 HS2.out
      have HLN : Hid (Pl.lineL (ws.take (k + 1)) = L ++ (Pl.wordL x.data.toList ++ [32])) := by show _ = _; rw [line_take ws k (by have := HM.out; omega), HL.out, hx]
      rw [← hx] at hc1
      have HW := uh (sheetWordI x wr (by omega))
      have hwo := wordOut_size x
      obtain ⟨y, hy⟩ : ∃ y, y = Pl.wordOut x := ⟨_, rfl⟩
      rw [← hy] at HW hwo
      have HY : Hid ((⟨(L ++ (Pl.wordL x.data.toList ++ [32])).toArray⟩ : ByteArray) = ⟨L.toArray⟩ ++ y ++ { data := #[32] }) := by
        show _ = _
        rw [hy]
        apply ByteArray.ext
        simp [ByteArray.data_append, Pl.wordOut]
      clear hx hy
      have hls : (⟨L.toArray⟩ : ByteArray).size = L.length := by show L.toArray.size = _; simp
      obtain ⟨Z, hZ⟩ : ∃ Z : ByteArray, Z = ⟨L.toArray⟩ := ⟨_, rfl⟩
      rw [← hZ] at hls HY ⊢
      clear hZ
      have hk0 : (0 : Int) ≤ (k : Int) := by omega
      have hkn : (k : Int) < (m : Int) := by omega
      go_wp2_with fail
      refine HW.out.mono ?_
      rintro e W7 ⟨rfl, hb7⟩
      have HB7 := uh (blw_trans HBR.out hb7)
      clear HW hb7 y1 hc1
      go_wp2
      go_roundw
      case rel => exact ⟨k + 1, by omega, by go_num, by rw [HLN.out, HY.out], HB7⟩
      case measure => simp [intOf]; omega
    obtain rfl : k = m := by omega
    have HLE : Hid (Pl.cutL L 0 = some ws) := by
      show _ = _
      have e : ws.take k = ws := List.take_of_length_le (by have := HM.out; omega)
      rw [HL.out, e]
      exact Pl.cut_line ws 0 HS2.out (by have := HM.out; omega)
    have hls : (⟨L.toArray⟩ : ByteArray).size = L.length := by show L.toArray.size = _; simp
    have HI := uh (sheetWordsI ⟨L.toArray⟩ wr (by omega))
    have hld : (⟨L.toArray⟩ : ByteArray).data.toList = L := rfl
    rw [hld] at HI
    obtain ⟨Z, hZ⟩ : ∃ Z : ByteArray, Z = ⟨L.toArray⟩ := ⟨_, rfl⟩
    rw [← hZ] at HI ⊢
    clear hZ hls hld
    go_wp2_with fail
    refine HI.out.mono ?_
    intro e W7 hans
    obtain ⟨a3, c3, rfl, hr3, hb7⟩ := ans_cut hans
    have ew : cutW L = ws := by unfold cutW; rw [HLE.out]; rfl
    have eb : cutB L = false := by unfold cutB; rw [HLE.out]; rfl
    rw [ew] at hr3
    rw [ew, eb]
    clear hans ew eb
    have hkm : k = ws.length := HM.out
    rw [← hkm] at hr3
    rw [← hkm]
    clear hkm
    obtain ⟨W8, hW8⟩ : ∃ W8, W8 = W7.alloc (.cells #[.slice a3 k c3, .bool false] 26) := ⟨_, rfl⟩
    obtain ⟨g, hg⟩ : ∃ g, g = W7.heap.size := ⟨_, rfl⟩
    have hb8 : Below W7.heap.size W7 W8 := by rw [hW8]; exact blw_alloc (Below.refl _ _) _
    have HX8 : Hid (WBox W8 g 26 [.slice a3 k c3, .bool false]) := by show WBox _ _ _ _; rw [hW8, hg]; exact WBox.new _ _ _ _ rfl
    have hb68 := blw_trans HBR.out (blw_trans hb7 hb8)
    have HC8 := uh (HX6.out.later hb68)
    have HR8 := uh (HR6.out.later hb68)
    have HR9 := uh (hr3.later hb8)
    have HB8 := uh (blw_trans HB6.out hb68)
    clear hr3 hb7 hb8 hb68 HI y1 HX6 HR6 HBR HB6 HLE HL hLs
    have HDW := uh (drawWord _ W8 (HCO.out.later HB8.out))
    go_wp2_with fail
    rw [← hW8, ← hg]
    clear hW8 hg
    refine HDW.out.mono ?_
    rintro e W9 ⟨⟨u, rfl, hu⟩, hb9⟩
    have HC9 := uh (HC8.out.later hb9)
    have HX9 := uh (HX8.out.later hb9)
    replace HR8 := uh (HR8.out.later hb9)
    replace HR9 := uh (HR9.out.later hb9)
    have HB9 := uh (blw_trans HB8.out hb9)
    clear hb9 HDW HC8 HX8 HB8
    have y0 := HX9.out.get 0 _ rfl
    have y1 := HX9.out.get 1 _ rfl
    have z0 := HC9.out.get 0 _ rfl
    have HWT := uh (wtWordsL ws a3 a1 c3 c1 W9 (by have := HR9.out; rw [HM.out] at this; exact this) (by have := HR8.out; rw [HM.out] at this; exact this) (by have := HM.out; omega))
    rw [← HM.out] at HWT
    go_wp2_with fail
    refine HWT.out.mono ?_
    rintro e W10 ⟨rfl, hb10⟩
    have HB10 := uh (blw_trans HB9.out hb10)
    clear hb10 HWT y0 y1 z0 HC9 HX9 HR8 HR9 HB9
    have HW1 := uh (sheetWordI u W10 (by omega))
    go_wp2_with fail
    refine HW1.out.mono ?_
    rintro e W11 ⟨rfl, hb11⟩
    have HB11 := uh (blw_trans HB10.out hb11)
    have HW2 := uh (sheetWordS u W11 (by omega))
    clear hb11 HW1 HB10
    go_wp2_with fail
    refine HW2.out.mono ?_
    rintro e W12 ⟨rfl, hb12⟩
    have HB12 := uh (blw_trans HB11.out hb12)
    clear hb12 HW2 HB11
    go_wp2
    go_ret
    exact ⟨by simp, HB12.out⟩

end Go.Proofs.YtkhhhogpkcggjaaDoor
