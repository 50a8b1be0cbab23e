/-
  Sheets: rules, one by one: the specification.
-/
import Derived.BigFrame
import Derived.Test.YtikacjpbnoihjaaECs
import Derived.Test.YtikacjpbnoihjaaETx
import Derived.Test.YtikacjpbnoihjaaEPr
import Derived.Test.YtikacjpbnoihjaaRgCh
namespace Go.Proofs.Ytikacjpbnoihjaa
open Go.RowKit Go.Deep

abbrev shSheetRule : List Sh := [.s, .row 3 [.i], .b, .row 9 [.s]]
theorem typSheetRule {ds : List Dt} (h : Typ shSheetRule ds) : ∃ a0 n1 e1 a2 n3 e3, ds = [.s a0, .row n1 e1, .b a2, .row n3 e3] ∧ Typ (reps n1 [.i]) e1 ∧ Typ (reps n3 [.s]) e3 := by
  obtain ⟨a0, x0, rfl, h1⟩ := h.c_s
  obtain ⟨n1, e1, x1, rfl, t1, h2⟩ := h1.c_r
  obtain ⟨a2, x2, rfl, h3⟩ := h2.c_b
  obtain ⟨n3, e3, x3, rfl, t3, h4⟩ := h3.c_r
  obtain rfl := h4.c_n
  exact ⟨a0, n1, e1, a2, n3, e3, rfl, t1, t3⟩
theorem repSheetRule {w : World} {tt : Bool} {F : List Nat} {a0 : ByteArray} {n1 : Nat} {e1 : List Dt} {a2 : Bool} {n3 : Nat} {e3 : List Dt} {cs : List Value} (h : Rep w tt shSheetRule F [.s a0, .row n1 e1, .b a2, .row n3 e3] cs) : ∃ F1 v1 F3 v3, F = F1 ++ (F3 ++ []) ∧ cs = [.string a0, v1, .bool a2, v3] ∧ Rep w tt [.row 3 [.i]] F1 [.row n1 e1] [v1] ∧ Rep w tt [.row 9 [.s]] F3 [.row n3 e3] [v3] := by
  obtain ⟨x0, rfl, h1⟩ := h.c_s
  obtain ⟨F1, G1, v1, x1, rfl, rfl, t1, h2⟩ := h1.c_r
  obtain ⟨x2, rfl, h3⟩ := h2.c_b
  obtain ⟨F3, G3, v3, x3, rfl, rfl, t3, h4⟩ := h3.c_r
  obtain ⟨rfl, rfl⟩ := h4.c_n
  exact ⟨F1, v1, F3, v3, rfl, rfl, t1, t3⟩
theorem rawSheetRule {w : World} {a0 : ByteArray} {n1 : Nat} {e1 : List Dt} {a2 : Bool} {n3 : Nat} {e3 : List Dt} {cs : List Value} (h : Raw w shSheetRule [.s a0, .row n1 e1, .b a2, .row n3 e3] cs) : ∃ v1 v3, cs = [.string a0, v1, .bool a2, v3] ∧ Raw w [.row 3 [.i]] [.row n1 e1] [v1] ∧ Raw w [.row 9 [.s]] [.row n3 e3] [v3] := by
  obtain ⟨x0, rfl, h1⟩ := h.c_s
  obtain ⟨v1, x1, rfl, t1, h2⟩ := h1.c_r
  obtain ⟨x2, rfl, h3⟩ := h2.c_b
  obtain ⟨v3, x3, rfl, t3, h4⟩ := h3.c_r
  obtain rfl := h4.c_n
  exact ⟨v1, v3, rfl, t1, t3⟩
theorem repSheetRule_mk {w : World} {tt : Bool} (a0 : ByteArray) {F1 : List Nat} {n1 : Nat} {e1 : List Dt} {v1 : Value} (h1 : Rep w tt [.row 3 [.i]] F1 [.row n1 e1] [v1]) (a2 : Bool) {F3 : List Nat} {n3 : Nat} {e3 : List Dt} {v3 : Value} (h3 : Rep w tt [.row 9 [.s]] F3 [.row n3 e3] [v3]) : Rep w tt shSheetRule (F1 ++ (F3 ++ [])) [.s a0, .row n1 e1, .b a2, .row n3 e3] [.string a0, v1, .bool a2, v3] :=
  (.s a0 (h1.app (.b a2 (h3.app .nil))))
theorem rawSheetRule_mk {w : World} (a0 : ByteArray) {n1 : Nat} {e1 : List Dt} {v1 : Value} (h1 : Raw w [.row 3 [.i]] [.row n1 e1] [v1]) (a2 : Bool) {n3 : Nat} {e3 : List Dt} {v3 : Value} (h3 : Raw w [.row 9 [.s]] [.row n3 e3] [v3]) : Raw w shSheetRule [.s a0, .row n1 e1, .b a2, .row n3 e3] [.string a0, v1, .bool a2, v3] :=
  (.s a0 (h1.app (.b a2 (h3.app .nil))))
theorem segTypSheetRule {ds : List Dt} (h : Typ shSheetRule ds) : ∃ (a0 : ByteArray) (n1 : Nat) (e1 : List Dt) (a2 : Bool) (n3 : Nat) (e3 : List Dt), ds = .s a0 :: .row n1 e1 :: .b a2 :: .row n3 e3 :: [] ∧ Typ (reps n1 [.i]) e1 ∧ Typ (reps n3 [.s]) e3 := by
  obtain ⟨a0, x0, rfl, h1⟩ := h.c_s
  obtain ⟨n1, e1, x1, rfl, t1, h2⟩ := h1.c_r
  obtain ⟨a2, x2, rfl, h3⟩ := h2.c_b
  obtain ⟨n3, e3, x3, rfl, t3, h4⟩ := h3.c_r
  obtain rfl := h4.c_n
  exact ⟨a0, n1, e1, a2, n3, e3, rfl, t1, t3⟩
theorem segRepSheetRule {w : World} {tt : Bool} {F : List Nat} {ds : List Dt} {cs : List Value} (h : Rep w tt shSheetRule F ds cs) : ∃ (a0 : ByteArray) (F1 : List Nat) (n1 : Nat) (e1 : List Dt) (v1 : Value) (a2 : Bool) (F3 : List Nat) (n3 : Nat) (e3 : List Dt) (v3 : Value), F = (F1 ++ (F3 ++ [])) ∧ ds = .s a0 :: .row n1 e1 :: .b a2 :: .row n3 e3 :: [] ∧ cs = .string a0 :: v1 :: .bool a2 :: v3 :: [] ∧ Rep w tt [.row 3 [.i]] F1 [.row n1 e1] [v1] ∧ Rep w tt [.row 9 [.s]] F3 [.row n3 e3] [v3] := by
  obtain ⟨a0, n1, e1, a2, n3, e3, rfl, tt1, tt3⟩ := segTypSheetRule h.raw.typ
  obtain ⟨x0, rfl, h1⟩ := h.c_s
  obtain ⟨F1, G1, v1, x1, rfl, rfl, t1, h2⟩ := h1.c_r
  obtain ⟨x2, rfl, h3⟩ := h2.c_b
  obtain ⟨F3, G3, v3, x3, rfl, rfl, t3, h4⟩ := h3.c_r
  obtain ⟨rfl, rfl⟩ := h4.c_n
  exact ⟨a0, F1, n1, e1, v1, a2, F3, n3, e3, v3, rfl, rfl, rfl, t1, t3⟩
theorem segRawSheetRule {w : World} {ds : List Dt} {cs : List Value} (h : Raw w shSheetRule ds cs) : ∃ (a0 : ByteArray) (n1 : Nat) (e1 : List Dt) (v1 : Value) (a2 : Bool) (n3 : Nat) (e3 : List Dt) (v3 : Value), ds = .s a0 :: .row n1 e1 :: .b a2 :: .row n3 e3 :: [] ∧ cs = .string a0 :: v1 :: .bool a2 :: v3 :: [] ∧ Raw w [.row 3 [.i]] [.row n1 e1] [v1] ∧ Raw w [.row 9 [.s]] [.row n3 e3] [v3] := by
  obtain ⟨a0, n1, e1, a2, n3, e3, rfl, tt1, tt3⟩ := segTypSheetRule h.typ
  obtain ⟨x0, rfl, h1⟩ := h.c_s
  obtain ⟨v1, x1, rfl, t1, h2⟩ := h1.c_r
  obtain ⟨x2, rfl, h3⟩ := h2.c_b
  obtain ⟨v3, x3, rfl, t3, h4⟩ := h3.c_r
  obtain rfl := h4.c_n
  exact ⟨a0, n1, e1, v1, a2, n3, e3, v3, rfl, rfl, t1, t3⟩
theorem segRepSheetRule_mk {w : World} {tt : Bool} (a0 : ByteArray) {F1 : List Nat} {n1 : Nat} {e1 : List Dt} {v1 : Value} (h1 : Rep w tt [.row 3 [.i]] F1 [.row n1 e1] [v1]) (a2 : Bool) {F3 : List Nat} {n3 : Nat} {e3 : List Dt} {v3 : Value} (h3 : Rep w tt [.row 9 [.s]] F3 [.row n3 e3] [v3]) : Rep w tt shSheetRule (F1 ++ (F3 ++ [])) (.s a0 :: .row n1 e1 :: .b a2 :: .row n3 e3 :: []) (.string a0 :: v1 :: .bool a2 :: v3 :: []) :=
  (.s a0 (h1.app (.b a2 (h3.app .nil))))
theorem segRawSheetRule_mk {w : World} (a0 : ByteArray) {n1 : Nat} {e1 : List Dt} {v1 : Value} (h1 : Raw w [.row 3 [.i]] [.row n1 e1] [v1]) (a2 : Bool) {n3 : Nat} {e3 : List Dt} {v3 : Value} (h3 : Raw w [.row 9 [.s]] [.row n3 e3] [v3]) : Raw w shSheetRule (.s a0 :: .row n1 e1 :: .b a2 :: .row n3 e3 :: []) (.string a0 :: v1 :: .bool a2 :: v3 :: []) :=
  (.s a0 (h1.app (.b a2 (h3.app .nil))))
theorem boxSheetRule {W : World} {B : Nat} {a0 : ByteArray} {v1 : Value} {a2 : Bool} {v3 : Value}  (h : W.rangeAt B 0 (.string a0 :: v1 :: .bool a2 :: v3 :: [])) : W.cell? ⟨B, 0, none⟩ = some (.string a0) ∧ W.cell? ⟨B, 1, none⟩ = some (v1) ∧ W.cell? ⟨B, 2, none⟩ = some (.bool a2) ∧ W.cell? ⟨B, 3, none⟩ = some (v3) := by
  obtain ⟨g0, k0⟩ := rA_cons h
  have h1 : W.rangeAt B 1 _ := k0
  obtain ⟨g1, k1⟩ := rA_cons h1
  have h2 : W.rangeAt B 2 _ := k1
  obtain ⟨g2, k2⟩ := rA_cons h2
  have h3 : W.rangeAt B 3 _ := k2
  obtain ⟨g3, k3⟩ := rA_cons h3
  have h4 : W.rangeAt B 4 _ := k3
  exact ⟨g0, g1, g2, g3⟩
end Go.Proofs.Ytikacjpbnoihjaa

namespace Go.Proofs.Ytikacjpbnoihjaa
open Go.RowKit Go.Deep

theorem Try.under_ints : Try.prog.underlying 45 = some (.slice 3) := by kernel_rfl
theorem Try.info_int : (Try.prog.info? 3).map (fun i => (i.zero, i.size, i.bytes)) = some (some (.int .i64 0), 1, 8) := by kernel_rfl
theorem sliceRun (s : ByteArray) (f k : Nat) (h1 : f ≤ k) (h2 : k ≤ s.size) (w : World) : (Instr.slice 9 (.string s) (some (.int .i64 (f : Int))) (some (.int .i64 (k : Int))) none).run Try.prog w = .ok (.string (s.extract f k)) w := by
  rw [run_slice_string_if w 9 s .i64 .i64 (f : Int) (k : Int) (by kernel_rfl), if_pos ⟨by omega, by omega⟩, if_pos ⟨by omega, by omega⟩]
  simp only [Int.toNat_natCast]
/-- While a rule is made: the answer's variable, the rule's, its words so far. -/
structure OR (w : World) (p : Nat) (key : ByteArray) (av : Value) (FA : List Nat) (n : Nat) (es : List Dt) (wr : World) (v : Value) (ts : List ByteArray) : Prop where
  bel : Below w.heap.size w wr
  res : WBox wr w.heap.size 48 [.string { data := #[] }, .slice none 0 0, .bool false, .slice none 0 0]
  box : WBox wr p 48 [.string key, av, .bool false, v]
  arg : Rep wr false [.row 3 [.i]] FA [.row n es] [av]
  row : TxR wr (p + 1) v ts
theorem OR.put {w wr wb w1 : World} {p : Nat} {key : ByteArray} {av v v' : Value} {FA : List Nat} {n : Nat} {es : List Dt} {ts ts' : List ByteArray} (h : OR w p key av FA n es wr v ts) (hwp : w.heap.size < p) (hFA : ∀ b ∈ FA, b < p) (hb : Below wr.heap.size wr wb) (hg : wb.grownBy w1 v.ownBlock) (hx : TxR w1 (p + 1) v' ts') : OR w p key av FA n es (w1.setCell ⟨p, 3, none⟩ v') v' ts' := by
  have hn : ∀ q, q < p + 1 → v.ownBlock ≠ some q := fun q hq e => by have := (owns_blk_lt h.row e).1; omega
  have hm : Marks (fun b => b = p) w1 (w1.setCell ⟨p, 3, none⟩ v') := Marks.sc (S := fun b => b = p) w1 rfl 3 v'
  refine ⟨?_, ((h.res.later hb).grow hg (hn _ (by omega))).other (by omega) _ _, ((h.box.later hb).grow hg (hn _ (by omega))).set 3 v' (by simp), ((h.arg.later hb).grown hg fun b hb => hn b (by have := hFA b hb; omega)).keep hm fun b hb e => by have := hFA b hb; omega, owns_mks hx hm fun b hb e => by omega⟩
  exact ((h.row.later hb).below (lo := p + 1) (blw_trans h.bel hb) hg (by omega)).setCell (p := ⟨p, 3, none⟩) (by show w.heap.size ≤ p; omega) _
theorem orAns {w wr we : World} {p : Nat} {key : ByteArray} {av v : Value} {FA : List Nat} {n : Nat} {es : List Dt} {ts : List ByteArray} (h : OR w p key av FA n es wr v ts) (hwp : w.heap.size < p) (nd : FA.Nodup) (hFA : ∀ b ∈ FA, w.heap.size < b ∧ b < p) (hm : Marks (fun b => b = w.heap.size) wr we) (hb : Below w.heap.size w we) :
    Ans shSheetRule [.s key, .row n es, .b false, .row ts.length (txD ts)] w (.returned (.agg #[.string key, av, .bool false, v])) we := by
  obtain ⟨F, h1, h2, h3⟩ := TxR.done (show TxR we (p + 1) v ts from owns_mks h.row hm fun b hb e => by omega)
  refine ⟨[.string key, av, .bool false, v], FA ++ (F ++ []), rfl, repSheetRule_mk key (h.arg.keep hm fun b hb e => by have := hFA b hb; omega) false h1, ?_, fun b hb' => ?_, hb⟩
  · rw [List.append_nil]
    exact nd_join nd h2 (fun b hb => (hFA b hb).2) (fun b hb => by have := h3 b hb; omega)
  · rw [List.append_nil] at hb'
    rcases List.mem_append.1 hb' with q | q
    · have := hFA b q; omega
    · have := h3 b q; omega
def VOr (wz p f k g cap : Nat) (s X : ByteArray) (va : Value) (m : Nat) : Nat → Value → Prop
  | 0, u => u = .pointer (some ⟨p, 3, none⟩)
  | 1, u => u = va
  | 2, u => u = .string s
  | 3, u => u = .int .i64 (f : Int)
  | 4, u => u = .int .i64 (k : Int)
  | 5, u => u = .string X
  | 6, u => u = .slice (some ⟨wz, 0, none⟩) 1 1
  | 7, u => u = .slice (some ⟨g, 0, none⟩) (m + 1) cap
  | 8, u => u = .pointer (some ⟨p, 3, none⟩)
  | _, _ => True

set_option maxRecDepth 8000 in
set_option maxHeartbeats 8000000 in
theorem l38OneS (key s : ByteArray) (va : Option Addr) (n vc : Nat) (es : List Dt) (w : World) (hs : s.size ≤ 1048576) (hv : Raw w [.row 3 [.i]] [.row n es] [.slice va n vc]) (hn : n ≤ 4194304) :
    Calls Try.prog 37 #[.string key, .string s, .slice va n vc] w (Ans shSheetRule [.s key, .row n es, .b false, .row (Pl.splL s).length (txD (Pl.splL s))] w) := by
  obtain ⟨wa, hwa⟩ : ∃ wa, wa = w.alloc (.cells #[.string { data := #[] }, .slice none 0 0, .bool false, .slice none 0 0] 48) := ⟨_, rfl⟩
  have hba : Below w.heap.size w wa := by rw [hwa]; exact blw_alloc (Below.refl _ _) _
  have hsa : wa.heap.size = w.heap.size + 1 := by rw [hwa]; simp
  have HRES : Hid (WBox wa w.heap.size 48 [.string { data := #[] }, .slice none 0 0, .bool false, .slice none 0 0]) := by show WBox _ _ _ _; rw [hwa]; exact WBox.new w [.string { data := #[] }, .slice none 0 0, .bool false, .slice none 0 0] 48 _ rfl
  obtain ⟨wb, hwb⟩ : ∃ wb, wb = wa.alloc (.cells #[] 3) := ⟨_, rfl⟩
  have hbb : Below wa.heap.size wa wb := by rw [hwb]; exact blw_alloc (Below.refl _ _) _
  obtain ⟨v', W1, xs, hrun, hg, hb1⟩ := app_copy (P := Try.prog) wa.heap.size 45 45 3 3 1 8 _ Try.under_ints Try.info_int rfl (by decide) (by decide) [.i] rfl (by simp [flatB]) wb (.slice (some ⟨wa.heap.size, 0, none⟩) 0 0) (Or.inr ⟨wa.heap.size, rfl, Nat.le_refl _, by rw [hwb]; exact heap_alloc_new _ _⟩) hbb.size n es (.slice va n vc) ((hv.later hba).later hbb) hn
  rw [hwb] at hrun
  obtain ⟨wx, wc, hvx⟩ := hg.shape
  subst hvx
  obtain ⟨FA, rA, ndA, frA⟩ := hg.done
  obtain ⟨p, hp⟩ : ∃ p, p = W1.heap.size := ⟨_, rfl⟩
  obtain ⟨wd, hwd⟩ : ∃ wd, wd = W1.alloc (.cells #[.string key, .slice wx n wc, .bool false, .slice none 0 0] 48) := ⟨_, rfl⟩
  have H0 : Hid (OR w p key (.slice wx n wc) FA n es wd (.slice none 0 0) []) := by
    have hb2 : Below W1.heap.size W1 wd := by rw [hwd]; exact blw_alloc (Below.refl _ _) _
    show OR _ _ _ _ _ _ _ _ _ _
    exact ⟨blw_trans (blw_trans (blw_trans hba hbb) hb1) hb2, ((HRES.out.later hbb).later hb1).later hb2, by rw [hwd, hp]; exact WBox.new W1 [.string key, .slice wx n wc, .bool false, .slice none 0 0] 48 _ rfl, rA.later hb2, TxR.nil _ _⟩
  have HFA : Hid (FA.Nodup ∧ ∀ b ∈ FA, w.heap.size < b ∧ b < p) := ⟨ndA, fun b hb => ⟨by have := frA b hb; omega, by rw [hp]; exact rA.lt b hb⟩⟩
  have HWP : Hid (w.heap.size < p) := by show _ < _; rw [hp]; have := hba.size; have := hbb.size; have := hb1.size; omega
  clear hg rA ndA frA HRES hv hwb hbb hb1 hsa hba
  go_enter Try.func37, Try.ntmps37
  go_upto_region 1 with fail
  rw [← hwa]
  clear hwa
  go_upto_region 2 with (at_builtin; refine Go.Lib.wpList_append_run _ rfl _ _ 45 45 rfl _ _ rfl rfl _ W1 hrun ?_)
  rw [← hwd, ← hp]
  clear hwd hp hrun
  go_wp2
  go_loopw [8, 9] (fun vf vi wr => ∃ (f k : Nat) (v : Value) (ts : List ByteArray), vf = .int .i64 f ∧ vi = .int .i64 k ∧ OR w p key (.slice wx n wc) FA n es wr v ts ∧ ts.length ≤ k ∧ k ≤ s.size + 1 ∧ f ≤ k ∧ ((k ≤ s.size ∧ Pl.splL s = ts ++ Pl.splR s f k) ∨ (k = s.size + 1 ∧ Pl.splL s = ts))) (fun _ vi _ => s.size + 1 - (intOf vi).toNat)
  case atStart => exact ⟨0, 0, _, [], rfl, rfl, H0.out, Nat.le_refl _, by omega, Nat.le_refl _, Or.inl ⟨Nat.zero_le _, by rw [Pl.splR_start]; rfl⟩⟩
  case round =>
    obtain ⟨f, k, v, ts, rfl, rfl, hO, htl, hk1, hfk, hspl⟩ := hrel
    have HO := uh hO
    have HSP := uh hspl
    have HTL := uh htl
    obtain ⟨sa, sc, hvv⟩ := hO.row.shape
    subst hvv
    clear hO hspl htl H0
    by_cases hle : k ≤ s.size
    rotate_left
    · have HSE : Hid (Pl.splL s = ts) := by rcases HSP.out with h | h; exact absurd h.1 hle; exact h.2
      have HBEL := uh HO.out.bel
      go_upto_region 9 with fail
      have hxa := HO.out.box.at_
      have hxl := HO.out.box.own.lt
      have hol := HO.out.res.own.lt
      have hth : wr.there w.heap.size 0 (#[.string key, .slice wx n wc, .bool false, .slice sa ts.length sc] : Array Value).size := uthere HO.out.res.own _ _ (by simp)
      obtain ⟨we, hwe⟩ : ∃ we, we = wr.setCells w.heap.size 0 [.string key, .slice wx n wc, .bool false, .slice sa ts.length sc] := ⟨_, rfl⟩
      have hrt : we.rangeAt w.heap.size 0 [.string key, .slice wx n wc, .bool false, .slice sa ts.length sc] := by rw [hwe]; exact World.rangeAt_setCells_same _ _ _ _ hth
      have HMK : Hid (Marks (fun b => b = w.heap.size) wr we) := by show Marks _ _ _; rw [hwe]; exact mks_scs (S := fun b => b = w.heap.size) rfl _ _ _
      have HBB : Hid (Below w.heap.size w we) := by show Below _ _ _; rw [hwe]; exact blw_scs (Nat.le_refl _) _ _ _ HBEL.out
      go_wp2_with (first | (refine wpList_load_mid rfl 48 _ rfl p 0 rfl [.string key, .slice wx n wc, .bool false, .slice sa ts.length sc] _ hxa Try.underlying48 rfl (by kernel_rfl) ?_) | (refine wpList_store_mid rfl 48 _ _ rfl w.heap.size 0 #[.string key, .slice wx n wc, .bool false, .slice sa ts.length sc] rfl rfl hth (by kernel_rfl) (by simp [Value.oneCell']) ?_))
      first | rw [← hwe] | (simp only [List.toList_toArray]; rw [← hwe])
      try simp only [Act.put]
      refine bodyPost_ret (v := .agg #[.string key, .slice wx n wc, .bool false, .slice sa ts.length sc]) (by simp [results, Try.results37, asAddr, run_loadVar_mid (P := Try.prog) _ _ _ 48 [.string key, .slice wx n wc, .bool false, .slice sa ts.length sc] _ hrt Try.underlying48 rfl (by kernel_rfl)]) rfl ?_
      rw [HSE.out]; exact orAns HO.out HWP.out HFA.out.1 HFA.out.2 HMK.out HBB.out
    have HSR : Hid (Pl.splL s = ts ++ Pl.splR s f k) := by
      rcases HSP.out with h | h
      · exact h.2
      · exact absurd h.1 (by omega)
    clear HSP
    have hcut : (k = s.size) ∨ (∃ h : k < s.size, s[k].toNat = 32) ∨ (∃ h : k < s.size, s[k].toNat ≠ 32) := by
      by_cases e : k = s.size
      · exact Or.inl e
      · by_cases e2 : s[k].toNat = 32
        · exact Or.inr (Or.inl ⟨by omega, e2⟩)
        · exact Or.inr (Or.inr ⟨by omega, e2⟩)
    have HSL : Hid (∀ w, (Instr.slice 9 (.string s) (some (.int .i64 (f : Int))) (some (.int .i64 (k : Int))) none).run Try.prog w = .ok (.string (s.extract f k)) w) := fun w => sliceRun s f k hfk hle w
    obtain ⟨X, hX⟩ : ∃ X, X = s.extract f k := ⟨_, rfl⟩
    rw [← hX] at HSL
    have hkk : IntKind.i64.wrap ((k : Int) + 1) = (k : Int) + 1 := IntWalk.i64_in _ ⟨by omega, by omega⟩
    rcases hcut with he | ⟨hlt, hc⟩ | ⟨hlt, hc⟩
    rotate_right
    · have HNX : Hid (Pl.splL s = ts ++ Pl.splR s f (k + 1)) := by show _ = _; rw [HSR.out, Pl.splR_on s f k hfk hlt hc]
      have d1 : ((k : Int) == (s.size : Int)) = false := by simp; omega
      have d2 : ((s[k].toNat : Int) == 32) = false := by simp; omega
      clear hc
      go_wp2
      go_roundw
      case rel => exact ⟨f, k + 1, _, ts, rfl, by go_num, HO.out, by have := HTL.out; omega, by omega, by omega, Or.inl ⟨by omega, HNX.out⟩⟩
      case measure => simp [intOf]; omega
    all_goals
      have HNX : Hid (((k + 1 ≤ s.size ∧ Pl.splL s = (ts ++ [X]) ++ Pl.splR s (k + 1) (k + 1)) ∨ (k + 1 = s.size + 1 ∧ Pl.splL s = ts ++ [X]))) := by
        first
          | (refine Or.inr ⟨by omega, ?_⟩; rw [HSR.out, hX]; subst he; rw [Pl.splR_end])
          | (refine Or.inl ⟨by omega, ?_⟩; rw [HSR.out, Pl.splR_cut s f k hlt hc, hX]; simp)
      first
        | have d1 : ((k : Int) == (s.size : Int)) = true := by simp; omega
        | (have d1 : ((k : Int) == (s.size : Int)) = false := by simp; omega
           have d2 : ((s[k].toNat : Int) == 32) = true := by simp; omega)
      have hwd0 : Below wr.heap.size wr wr.drew := Below.drew (Below.refl _ _)
      obtain ⟨Wb, hWb⟩ : ∃ Wb, Wb = wr.drew.alloc (.cells #[.string X] 9) := ⟨_, rfl⟩
      have hbW : Below wr.heap.size wr Wb := by rw [hWb]; exact blw_alloc hwd0 _
      obtain ⟨g, cap, W1', hrun, hx1, hgr⟩ := tx_run (HO.out.row.later hbW) 46 wr.heap.size 1 1 [X] rfl (by rw [hWb]; exact World.news_of_block (cs := #[.string X]) (heap_alloc_new wr.drew _)) (by decide) (by have := HTL.out; omega) (by have := HO.out.box.own.lt; have := hbW.size; omega)
      have c0 := (HO.out.box.later hwd0).get 3 _ rfl
      have c0b := (HO.out.box.later hbW).get 3 _ rfl
      have HOP := uh (HO.out.put HWP.out (fun b hb => (HFA.out.2 b hb).2) hbW hgr hx1)
      have hn1 : (Value.slice sa ts.length sc).ownBlock ≠ some p := fun e => by have := (owns_blk_lt HO.out.row e).1; omega
      have x0 := ((HO.out.box.later hbW).grow hgr hn1).get 3 _ rfl
      have xf := ((HO.out.box.later hbW).grow hgr hn1).own.frozen 3
      clear hx1 hgr hn1 hbW hwd0
      go_upto_region 7 with fail
      refine RY.region_ch (VOr wr.heap.size p f k g cap s X (.slice sa ts.length sc) ts.length) [6, 7, 9] (RY.ws4 wr.drew Wb W1' (W1'.setCell ⟨p, 3, none⟩ (.slice (some ⟨g, 0, none⟩) (ts.length + 1) cap))) [1, 1, 0, 0, 0, 0, 0, 1, 2, 2] (by kernel_rfl) (by kernel_rfl) (by kernel_rfl) (by kernel_rfl) (by kernel_rfl) (by kernel_rfl) rfl ?_ ?_ (by simp)
      · intro i o ho a hk hd
        match i, ho with
        | 0, ho =>
          injection ho with ho; subst ho
          have s7 : a.eval (.tmp 7) = .pointer (some ⟨p, 0, none⟩) := (hk 7 rfl).trans rfl
          have t7 : a.tmps[7]?.getD undef = .pointer (some ⟨p, 0, none⟩) := (RY.ev_tmp a 7).trans s7
          refine ⟨fun j hj => absurd (List.mem_of_getElem? hj) (by decide), fun _ j hj => ?_⟩
          exact ⟨.pointer (some ⟨p, 3, none⟩), by simp [execOp, go_sem, t7], rfl, rfl⟩
        | 1, ho =>
          injection ho with ho; subst ho
          have s31 : a.eval (.tmp 31) = .pointer (some ⟨p, 3, none⟩) := hd 0 _ 31 rfl rfl ⟨⟨0, .data⟩, by simp, rfl, rfl⟩
          have t31 : a.tmps[31]?.getD undef = .pointer (some ⟨p, 3, none⟩) := (RY.ev_tmp a 31).trans s31
          refine ⟨fun j hj => absurd (List.mem_of_getElem? hj) (by decide), fun _ j hj => ?_⟩
          replace hj : j ≤ 1 := hj
          match j, hj with
          | 0, _ => exact ⟨.slice sa ts.length sc, by simp [RY.ws4, execOp, go_sem, t31, c0], rfl, rfl⟩
          | 1, _ => exact ⟨.slice sa ts.length sc, by simp [RY.ws4, execOp, go_sem, t31, c0b], rfl, rfl⟩
          | n + 2, hj => exact absurd hj (by omega)
        | 2, ho =>
          injection ho with ho; subst ho
          have s1 : a.eval (.tmp 1) = .string s := (hk 1 rfl).trans rfl
          have t1 : a.tmps[1]?.getD undef = .string s := (RY.ev_tmp a 1).trans s1
          refine ⟨fun j hj => absurd (List.mem_of_getElem? hj) (by decide), fun _ j hj => ?_⟩
          exact ⟨.string s, by simp [execOp, go_sem, t1], rfl, rfl⟩
        | 3, ho =>
          injection ho with ho; subst ho
          have s8 : a.eval (.tmp 8) = .int .i64 (f : Int) := (hk 8 rfl).trans rfl
          have t8 : a.tmps[8]?.getD undef = .int .i64 (f : Int) := (RY.ev_tmp a 8).trans s8
          refine ⟨fun j hj => absurd (List.mem_of_getElem? hj) (by decide), fun _ j hj => ?_⟩
          exact ⟨.int .i64 (f : Int), by simp [execOp, go_sem, t8], rfl, rfl⟩
        | 4, ho =>
          injection ho with ho; subst ho
          have s9 : a.eval (.tmp 9) = .int .i64 (k : Int) := (hk 9 rfl).trans rfl
          have t9 : a.tmps[9]?.getD undef = .int .i64 (k : Int) := (RY.ev_tmp a 9).trans s9
          refine ⟨fun j hj => absurd (List.mem_of_getElem? hj) (by decide), fun _ j hj => ?_⟩
          exact ⟨.int .i64 (k : Int), by simp [execOp, go_sem, t9], rfl, rfl⟩
        | 5, ho =>
          injection ho with ho; subst ho
          have s33 : a.eval (.tmp 33) = .string s := hd 2 _ 33 rfl rfl ⟨⟨2, .data⟩, by simp, rfl, rfl⟩
          have t33 : a.tmps[33]?.getD undef = .string s := (RY.ev_tmp a 33).trans s33
          have s34 : a.eval (.tmp 34) = .int .i64 (f : Int) := hd 3 _ 34 rfl rfl ⟨⟨3, .data⟩, by simp, rfl, rfl⟩
          have t34 : a.tmps[34]?.getD undef = .int .i64 (f : Int) := (RY.ev_tmp a 34).trans s34
          have s35 : a.eval (.tmp 35) = .int .i64 (k : Int) := hd 4 _ 35 rfl rfl ⟨⟨4, .data⟩, by simp, rfl, rfl⟩
          have t35 : a.tmps[35]?.getD undef = .int .i64 (k : Int) := (RY.ev_tmp a 35).trans s35
          refine ⟨fun j hj => absurd (List.mem_of_getElem? hj) (by decide), fun _ j hj => ?_⟩
          replace hj : j ≤ 0 := hj
          match j, hj with
          | 0, _ => exact ⟨.string X, by simp [RY.ws4, execOp, go_sem, t33, t34, t35, HSL.out], rfl, rfl⟩
          | n + 1, hj => exact absurd hj (by omega)
        | 6, ho =>
          injection ho with ho; subst ho
          have s36 : a.eval (.tmp 36) = .string X := hd 5 _ 36 rfl rfl ⟨⟨5, .data⟩, by simp, rfl, rfl⟩
          have t36 : a.tmps[36]?.getD undef = .string X := (RY.ev_tmp a 36).trans s36
          refine ⟨fun j hj => ?_, fun h => absurd h (by decide)⟩
          obtain rfl : j = 0 := by
            match j, hj with
            | 0, hj => first | rfl | (simp at hj)
            | 1, hj => first | rfl | (simp at hj)
            | 2, hj => first | rfl | (simp at hj)
            | n + 3, hj => simp at hj
          exact Or.inl ⟨.slice (some ⟨wr.heap.size, 0, none⟩) 1 1, by rw [hWb]; simp [RY.ws4, execOp, go_sem, t36], rfl, rfl⟩
        | 7, ho =>
          injection ho with ho; subst ho
          have s32 : a.eval (.tmp 32) = .slice sa ts.length sc := hd 1 _ 32 rfl rfl ⟨⟨1, .data⟩, by simp, rfl, rfl⟩
          have t32 : a.tmps[32]?.getD undef = .slice sa ts.length sc := (RY.ev_tmp a 32).trans s32
          have s37 : a.eval (.tmp 37) = .slice (some ⟨wr.heap.size, 0, none⟩) 1 1 := hd 6 _ 37 rfl rfl ⟨⟨6, .data⟩, by simp, rfl, rfl⟩
          have t37 : a.tmps[37]?.getD undef = .slice (some ⟨wr.heap.size, 0, none⟩) 1 1 := (RY.ev_tmp a 37).trans s37
          refine ⟨fun j hj => ?_, fun h => absurd h (by decide)⟩
          obtain rfl : j = 1 := by
            match j, hj with
            | 0, hj => first | rfl | (simp at hj)
            | 1, hj => first | rfl | (simp at hj)
            | 2, hj => first | rfl | (simp at hj)
            | n + 3, hj => simp at hj
          exact Or.inl ⟨_, uexec_append (.tmp 32) (.tmp 37) 46 rfl s32 s37 hrun, rfl, rfl⟩
        | 8, ho =>
          injection ho with ho; subst ho
          have s7 : a.eval (.tmp 7) = .pointer (some ⟨p, 0, none⟩) := (hk 7 rfl).trans rfl
          have t7 : a.tmps[7]?.getD undef = .pointer (some ⟨p, 0, none⟩) := (RY.ev_tmp a 7).trans s7
          refine ⟨fun j hj => absurd (List.mem_of_getElem? hj) (by decide), fun _ j hj => ?_⟩
          exact ⟨.pointer (some ⟨p, 3, none⟩), by simp [execOp, go_sem, t7], rfl, rfl⟩
        | 9, ho =>
          injection ho with ho; subst ho
          have s39 : a.eval (.tmp 39) = .pointer (some ⟨p, 3, none⟩) := hd 8 _ 39 rfl rfl ⟨⟨8, .data⟩, by simp, rfl, rfl⟩
          have t39 : a.tmps[39]?.getD undef = .pointer (some ⟨p, 3, none⟩) := (RY.ev_tmp a 39).trans s39
          have s38 : a.eval (.tmp 38) = .slice (some ⟨g, 0, none⟩) (ts.length + 1) cap := hd 7 _ 38 rfl rfl ⟨⟨7, .data⟩, by simp, rfl, rfl⟩
          have t38 : a.tmps[38]?.getD undef = .slice (some ⟨g, 0, none⟩) (ts.length + 1) cap := (RY.ev_tmp a 38).trans s38
          refine ⟨fun j hj => ?_, fun h => absurd h (by decide)⟩
          obtain rfl : j = 2 := by
            match j, hj with
            | 0, hj => first | rfl | (simp at hj)
            | 1, hj => first | rfl | (simp at hj)
            | 2, hj => first | rfl | (simp at hj)
            | n + 3, hj => simp at hj
          exact Or.inr ⟨by simp [RY.ws4, execOp, go_sem, t39, t38, x0, xf], rfl⟩
        | n + 10, ho => simp at ho
      intro vs hvs
      simp only [RY.putAll, Act.put, List.setIfInBounds_toArray, List.set_cons_zero, List.set_cons_succ]
      generalize vs 31 = g31
      generalize vs 32 = g32
      generalize vs 33 = g33
      generalize vs 34 = g34
      generalize vs 35 = g35
      generalize vs 36 = g36
      generalize vs 37 = g37
      generalize vs 38 = g38
      generalize vs 39 = g39
      clear hvs
      clear c0 c0b x0 xf hrun hWb
      show _
      go_wp2
      go_roundw
      case rel => exact ⟨k + 1, k + 1, _, ts ++ [X], by go_num, by go_num, HOP.out, by rw [List.length_append]; have := HTL.out; simp; omega, by omega, Nat.le_refl _, HNX.out⟩
      case measure => simp [intOf]; omega

set_option maxRecDepth 8000 in
set_option maxHeartbeats 8000000 in
theorem l38ManyS (key : ByteArray) (va : Option Addr) (n vc : Nat) (es : List Dt) (w : World) (hv : Raw w [.row 3 [.i]] [.row n es] [.slice va n vc]) (hn : n ≤ 4194304) :
    Calls Try.prog 38 #[.string key, .slice va n vc] w (Ans shSheetRule [.s key, .row n es, .b true, .row 0 []] w) := by
  obtain ⟨wa, hwa⟩ : ∃ wa, wa = w.alloc (.cells #[.string { data := #[] }, .slice none 0 0, .bool false, .slice none 0 0] 48) := ⟨_, rfl⟩
  have hba : Below w.heap.size w wa := by rw [hwa]; exact blw_alloc (Below.refl _ _) _
  have hsa : wa.heap.size = w.heap.size + 1 := by rw [hwa]; simp
  have HRES : Hid (WBox wa w.heap.size 48 [.string { data := #[] }, .slice none 0 0, .bool false, .slice none 0 0]) := by show WBox _ _ _ _; rw [hwa]; exact WBox.new w [.string { data := #[] }, .slice none 0 0, .bool false, .slice none 0 0] 48 _ rfl
  obtain ⟨wb, hwb⟩ : ∃ wb, wb = wa.alloc (.cells #[] 3) := ⟨_, rfl⟩
  have hbb : Below wa.heap.size wa wb := by rw [hwb]; exact blw_alloc (Below.refl _ _) _
  obtain ⟨v', W1, xs, hrun, hg, hb1⟩ := app_copy (P := Try.prog) wa.heap.size 45 45 3 3 1 8 _ Try.under_ints Try.info_int rfl (by decide) (by decide) [.i] rfl (by simp [flatB]) wb (.slice (some ⟨wa.heap.size, 0, none⟩) 0 0) (Or.inr ⟨wa.heap.size, rfl, Nat.le_refl _, by rw [hwb]; exact heap_alloc_new _ _⟩) hbb.size n es (.slice va n vc) ((hv.later hba).later hbb) hn
  rw [hwb] at hrun
  obtain ⟨wx, wc, hvx⟩ := hg.shape
  subst hvx
  obtain ⟨FA, rA, ndA, frA⟩ := hg.done
  obtain ⟨p, hp⟩ : ∃ p, p = W1.heap.size := ⟨_, rfl⟩
  have HFA : Hid (FA.Nodup ∧ ∀ b ∈ FA, w.heap.size < b) := ⟨ndA, fun b hb => by have := frA b hb; omega⟩
  have HRA := uh rA
  have HBEL : Hid (Below w.heap.size w W1) := blw_trans (blw_trans hba hbb) hb1
  replace HRES := uh ((HRES.out.later hbb).later hb1)
  clear hg rA ndA frA hv hp hba hbb hb1 hsa hwb
  have hol := HRES.out.own.lt
  have hth : W1.there w.heap.size 0 (#[.string key, .slice wx n wc, .bool true, .slice none 0 0] : Array Value).size := uthere HRES.out.own _ _ (by simp)
  obtain ⟨we, hwe⟩ : ∃ we, we = W1.setCells w.heap.size 0 [.string key, .slice wx n wc, .bool true, .slice none 0 0] := ⟨_, rfl⟩
  have hrt : we.rangeAt w.heap.size 0 [.string key, .slice wx n wc, .bool true, .slice none 0 0] := by rw [hwe]; exact World.rangeAt_setCells_same _ _ _ _ hth
  have HMK : Hid (Marks (fun b => b = w.heap.size) W1 we) := by show Marks _ _ _; rw [hwe]; exact mks_scs (S := fun b => b = w.heap.size) rfl _ _ _
  have HBB : Hid (Below w.heap.size w we) := by show Below _ _ _; rw [hwe]; exact blw_scs (Nat.le_refl _) _ _ _ HBEL.out
  go_enter Try.func38, Try.ntmps38
  go_upto_region 1 with fail
  rw [← hwa]
  clear hwa
  go_wp2_with (first | (at_builtin; refine Go.Lib.wpList_append_run _ rfl _ _ 45 45 rfl _ _ rfl rfl _ W1 hrun ?_) | (refine wpList_store_mid rfl 48 _ _ rfl w.heap.size 0 #[.string key, .slice wx n wc, .bool true, .slice none 0 0] rfl rfl hth (by kernel_rfl) (by simp [Value.oneCell']) ?_))
  first | rw [← hwe] | (simp only [List.toList_toArray]; rw [← hwe])
  try simp only [Act.put]
  refine bodyPost_ret (v := .agg #[.string key, .slice wx n wc, .bool true, .slice none 0 0]) (by simp [results, Try.results38, asAddr, run_loadVar_mid (P := Try.prog) _ _ _ 48 [.string key, .slice wx n wc, .bool true, .slice none 0 0] _ hrt Try.underlying48 rfl (by kernel_rfl)]) rfl ?_
  exact ⟨[.string key, .slice wx n wc, .bool true, .slice none 0 0], FA ++ ([] ++ []), rfl, repSheetRule_mk key (HRA.out.keep HMK.out fun b hb e => by have := HFA.out.2 b hb; omega) true (.emp _ _ none rfl .nil), by rw [List.append_nil, List.append_nil]; exact HFA.out.1, fun b hb => by rw [List.append_nil, List.append_nil] at hb; have := HFA.out.2 b hb; omega, HBB.out⟩

end Go.Proofs.Ytikacjpbnoihjaa
