/-
  Sheets: the differences of two sheets: the program.
-/
import Derived.Test.YtojcopamegmeeaaEVs
import Derived.Test.YtojcopamegmeeaaEVp
import Derived.Test.YtojcopamegmeeaaESd
import Derived.Test.YtojcopamegmeeaaUL
import Derived.Test.YtojcopamegmeeaaEVd
import Derived.Test.YtojcopamegmeeaaEGn
import Derived.Test.YtojcopamegmeeaaEJf
import Derived.Test.YtojcopamegmeeaaEVe
import Derived.Test.YtojcopamegmeeaaEJq
import Derived.Test.YtojcopamegmeeaaEOp
namespace Go.Proofs.Ytojcopamegmeeaa
open Go.RowKit Go.Deep

def VJn (b0 : Nat) (c : Nat) (N0 : Nat) (la : Option Addr) (k : ByteArray) (n : ByteArray) (l : List Pl.Ln) : Nat → Value → World → Prop
  | 0, vv, _ => vv = .pointer (some ⟨b0, 0, none⟩)
  | 1, vv, _ => vv = .pointer (some ⟨b0, 0, none⟩)
  | 2, vv, _ => vv = .string k
  | 3, vv, _ => vv = .pointer (some ⟨b0, 0, none⟩)
  | 4, vv, _ => vv = .pointer (some ⟨b0, 1, none⟩)
  | 5, vv, _ => vv = .string n
  | 6, vv, _ => vv = .pointer (some ⟨b0, 2, none⟩)
  | 7, vv, _ => vv = .slice la l.length c
  | 8, vv, W => ∃ y1 y2 F, vv = .slice y1 l.length y2 ∧ Rep W false shLns F [lnsD l] [.slice y1 l.length y2] ∧ F.Nodup ∧ ∀ z ∈ F, N0 ≤ z
  | 9, vv, W => ∃ y1 y2 F, vv = .agg #[.int .i64 2, .string k, .string n, .string { data := #[] }, .slice y1 l.length y2] ∧ Rep W false shLns F [lnsD l] [.slice y1 l.length y2] ∧ F.Nodup ∧ ∀ z ∈ F, N0 ≤ z
  | _, _, _ => True
theorem VJn_mono (b0 : Nat) (c : Nat) (N0 : Nat) (la : Option Addr) (k : ByteArray) (n : ByteArray) (l : List Pl.Ln) : ∀ jj vv W W', Below W.heap.size W W' → VJn b0 c N0 la k n l jj vv W → VJn b0 c N0 la k n l jj vv W' := by
  intro jj vv W W' hb h
  match jj with
  | 0 => exact h
  | 1 => exact h
  | 2 => exact h
  | 3 => exact h
  | 4 => exact h
  | 5 => exact h
  | 6 => exact h
  | 7 => exact h
  | 8 =>
    obtain ⟨y1, y2, F, h1, h2, h3⟩ := h
    exact ⟨y1, y2, F, h1, h2.later hb, h3⟩
  | 9 =>
    obtain ⟨y1, y2, F, h1, h2, h3⟩ := h
    exact ⟨y1, y2, F, h1, h2.later hb, h3⟩
  | n + 10 => exact trivial
def VJs (b0 : Nat) (c : Nat) (N0 : Nat) (la : Option Addr) (k : ByteArray) (n : ByteArray) (key : ByteArray) (l : List Pl.Ln) : Nat → Value → World → Prop
  | 0, vv, _ => vv = .pointer (some ⟨b0, 0, none⟩)
  | 1, vv, _ => vv = .pointer (some ⟨b0, 0, none⟩)
  | 2, vv, _ => vv = .string k
  | 3, vv, _ => vv = .pointer (some ⟨b0, 0, none⟩)
  | 4, vv, _ => vv = .pointer (some ⟨b0, 1, none⟩)
  | 5, vv, _ => vv = .string n
  | 6, vv, _ => vv = .pointer (some ⟨b0, 2, none⟩)
  | 7, vv, _ => vv = .string key
  | 8, vv, _ => vv = .pointer (some ⟨b0, 3, none⟩)
  | 9, vv, _ => vv = .slice la l.length c
  | 10, vv, W => ∃ y1 y2 F, vv = .slice y1 l.length y2 ∧ Rep W false shLns F [lnsD l] [.slice y1 l.length y2] ∧ F.Nodup ∧ ∀ z ∈ F, N0 ≤ z
  | 11, vv, W => ∃ y1 y2 F, vv = .agg #[.int .i64 3, .string k, .string n, .string key, .slice y1 l.length y2] ∧ Rep W false shLns F [lnsD l] [.slice y1 l.length y2] ∧ F.Nodup ∧ ∀ z ∈ F, N0 ≤ z
  | _, _, _ => True
theorem VJs_mono (b0 : Nat) (c : Nat) (N0 : Nat) (la : Option Addr) (k : ByteArray) (n : ByteArray) (key : ByteArray) (l : List Pl.Ln) : ∀ jj vv W W', Below W.heap.size W W' → VJs b0 c N0 la k n key l jj vv W → VJs b0 c N0 la k n key l jj vv W' := by
  intro jj vv W W' hb h
  match jj with
  | 0 => exact h
  | 1 => exact h
  | 2 => exact h
  | 3 => exact h
  | 4 => exact h
  | 5 => exact h
  | 6 => exact h
  | 7 => exact h
  | 8 => exact h
  | 9 => exact h
  | 10 =>
    obtain ⟨y1, y2, F, h1, h2, h3⟩ := h
    exact ⟨y1, y2, F, h1, h2.later hb, h3⟩
  | 11 =>
    obtain ⟨y1, y2, F, h1, h2, h3⟩ := h
    exact ⟨y1, y2, F, h1, h2.later hb, h3⟩
  | n + 12 => exact trivial

set_option maxRecDepth 8000 in
set_option maxHeartbeats 16000000 in
theorem sheetGoneTold (k n : ByteArray) (w : World) : Calls Try.prog 108 #[.agg #[.string k, .string n]] w (Ans shSheetChange (chD ⟨1, k, n, Pl.txNo, []⟩) w) := by
  obtain ⟨b0, hb0⟩ : ∃ b, b = w.heap.size := ⟨_, rfl⟩
  obtain ⟨wa, hwa⟩ : ∃ wa, wa = (w.alloc (.cells #[.string k, .string n] 91)).alloc (.cells #[.int .i64 0, .string { data := #[] }, .string { data := #[] }, .string { data := #[] }, .slice none 0 0] 44) := ⟨_, rfl⟩
  have HB : Hid (Below w.heap.size w wa) := by show Below _ _ _; rw [hwa]; exact blw_alloc (blw_alloc (Below.refl _ _) _) _
  have HX : Hid (LBox wa b0 [.string k, .string n]) := by show LBox _ _ _; rw [hwa, hb0]; exact (LBox.new w #[.string k, .string n] _ _ rfl).past _
  have HO : Hid (OwnBlk wa (b0 + 1) 44 5) := by show OwnBlk _ _ _ _; rw [hwa]; exact OwnBlk.alloc_at3 _ _ _ _ _ rfl (by simp [hb0])
  have HZ := uh hb0
  go_enter Try.func108, Try.ntmps108
  go_upto_region 1 with fail
  rw [← hwa, ← hb0]
  clear hwa hb0
  have x0 := HX.out.get 0 _ rfl
  have x1 := HX.out.get 1 _ rfl
  have xl := HX.out.lt
  have ol := HO.out.lt
  have hth : wa.there (b0 + 1) 0 (#[.int .i64 1, .string k, .string n, .string { data := #[] }, .slice none 0 0] : Array Value).size := uthere HO.out _ _ (by simp)
  obtain ⟨we, hwe⟩ : ∃ we, we = wa.setCells (b0 + 1) 0 [.int .i64 1, .string k, .string n, .string { data := #[] }, .slice none 0 0] := ⟨_, rfl⟩
  have hrt : we.rangeAt (b0 + 1) 0 [.int .i64 1, .string k, .string n, .string { data := #[] }, .slice none 0 0] := by rw [hwe]; exact World.rangeAt_setCells_same _ _ _ _ hth
  have HBB : Hid (Below w.heap.size w we) := by show Below _ _ _; rw [hwe]; exact blw_scs (by have := HZ.out; omega) _ _ _ HB.out
  go_wp2_with (refine wpList_store_mid rfl 44 _ _ rfl (b0 + 1) 0 #[.int .i64 1, .string k, .string n, .string { data := #[] }, .slice none 0 0] rfl rfl hth (by kernel_rfl) (by simp [Value.oneCell']) ?_)
  first | rw [← hwe] | (simp only [List.toList_toArray]; rw [← hwe])
  try simp only [Act.put]
  refine bodyPost_ret (v := .agg #[.int .i64 1, .string k, .string n, .string { data := #[] }, .slice none 0 0]) (by simp [results, Try.results108, asAddr, run_loadVar_mid (P := Try.prog) _ _ _ 44 [.int .i64 1, .string k, .string n, .string { data := #[] }, .slice none 0 0] _ hrt Try.underlying44 rfl (by kernel_rfl)]) rfl ?_
  exact ⟨[.int .i64 1, .string k, .string n, .string { data := #[] }, .slice none 0 0], [] ++ [], rfl, repSheetChange_mk _ _ _ _ (.emp _ _ none rfl .nil), by simp, by simp, HBB.out⟩

set_option maxRecDepth 8000 in
set_option maxHeartbeats 16000000 in
theorem sheetUnsetTold (k n key : ByteArray) (w : World) : Calls Try.prog 114 #[.agg #[.string k, .string n, .string key]] w (Ans shSheetChange (chD ⟨4, k, n, key, []⟩) w) := by
  obtain ⟨b0, hb0⟩ : ∃ b, b = w.heap.size := ⟨_, rfl⟩
  obtain ⟨wa, hwa⟩ : ∃ wa, wa = (w.alloc (.cells #[.string k, .string n, .string key] 119)).alloc (.cells #[.int .i64 0, .string { data := #[] }, .string { data := #[] }, .string { data := #[] }, .slice none 0 0] 44) := ⟨_, rfl⟩
  have HB : Hid (Below w.heap.size w wa) := by show Below _ _ _; rw [hwa]; exact blw_alloc (blw_alloc (Below.refl _ _) _) _
  have HX : Hid (LBox wa b0 [.string k, .string n, .string key]) := by show LBox _ _ _; rw [hwa, hb0]; exact (LBox.new w #[.string k, .string n, .string key] _ _ rfl).past _
  have HO : Hid (OwnBlk wa (b0 + 1) 44 5) := by show OwnBlk _ _ _ _; rw [hwa]; exact OwnBlk.alloc_at3 _ _ _ _ _ rfl (by simp [hb0])
  have HZ := uh hb0
  go_enter Try.func114, Try.ntmps114
  go_upto_region 1 with fail
  rw [← hwa, ← hb0]
  clear hwa hb0
  have x0 := HX.out.get 0 _ rfl
  have x1 := HX.out.get 1 _ rfl
  have x2 := HX.out.get 2 _ rfl
  have xl := HX.out.lt
  have ol := HO.out.lt
  have hth : wa.there (b0 + 1) 0 (#[.int .i64 4, .string k, .string n, .string key, .slice none 0 0] : Array Value).size := uthere HO.out _ _ (by simp)
  obtain ⟨we, hwe⟩ : ∃ we, we = wa.setCells (b0 + 1) 0 [.int .i64 4, .string k, .string n, .string key, .slice none 0 0] := ⟨_, rfl⟩
  have hrt : we.rangeAt (b0 + 1) 0 [.int .i64 4, .string k, .string n, .string key, .slice none 0 0] := by rw [hwe]; exact World.rangeAt_setCells_same _ _ _ _ hth
  have HBB : Hid (Below w.heap.size w we) := by show Below _ _ _; rw [hwe]; exact blw_scs (by have := HZ.out; omega) _ _ _ HB.out
  go_wp2_with (refine wpList_store_mid rfl 44 _ _ rfl (b0 + 1) 0 #[.int .i64 4, .string k, .string n, .string key, .slice none 0 0] rfl rfl hth (by kernel_rfl) (by simp [Value.oneCell']) ?_)
  first | rw [← hwe] | (simp only [List.toList_toArray]; rw [← hwe])
  try simp only [Act.put]
  refine bodyPost_ret (v := .agg #[.int .i64 4, .string k, .string n, .string key, .slice none 0 0]) (by simp [results, Try.results114, asAddr, run_loadVar_mid (P := Try.prog) _ _ _ 44 [.int .i64 4, .string k, .string n, .string key, .slice none 0 0] _ hrt Try.underlying44 rfl (by kernel_rfl)]) rfl ?_
  exact ⟨[.int .i64 4, .string k, .string n, .string key, .slice none 0 0], [] ++ [], rfl, repSheetChange_mk _ _ _ _ (.emp _ _ none rfl .nil), by simp, by simp, HBB.out⟩

set_option maxRecDepth 8000 in
set_option maxHeartbeats 16000000 in
theorem sheetNewTold (k n : ByteArray) (l : List Pl.Ln) (la : Option Addr) (c : Nat) (w : World) (h : Raw w shLns [lnsD l] [.slice la l.length c]) (hl : l.length ≤ 4194304) (hw : ∀ x ∈ l, x.ws.length ≤ 4194304) : Calls Try.prog 109 #[.agg #[.string k, .string n, .slice la l.length c]] w (Ans shSheetChange (chD ⟨2, k, n, Pl.txNo, l⟩) w) := by
  obtain ⟨b0, hb0⟩ : ∃ b, b = w.heap.size := ⟨_, rfl⟩
  obtain ⟨wa, hwa⟩ : ∃ wa, wa = (w.alloc (.cells #[.string k, .string n, .slice la l.length c] 94)).alloc (.cells #[.int .i64 0, .string { data := #[] }, .string { data := #[] }, .string { data := #[] }, .slice none 0 0] 44) := ⟨_, rfl⟩
  have HB : Hid (Below w.heap.size w wa) := by show Below _ _ _; rw [hwa]; exact blw_alloc (blw_alloc (Below.refl _ _) _) _
  have HX : Hid (LBox wa b0 [.string k, .string n, .slice la l.length c]) := by show LBox _ _ _; rw [hwa, hb0]; exact (LBox.new w #[.string k, .string n, .slice la l.length c] _ _ rfl).past _
  have HO : Hid (OwnBlk wa (b0 + 1) 44 5) := by show OwnBlk _ _ _ _; rw [hwa]; exact OwnBlk.alloc_at3 _ _ _ _ _ rfl (by simp [hb0])
  have ZA : Hid (wa.heap.size = b0 + 2) := by show _ = _; rw [hwa]; simp [hb0]
  have HZ := uh hb0
  have HC := uh (fun (X : World) (hX : Below wa.heap.size wa X) => copyLnsI l (.slice la l.length c) X ((h.later HB.out).later hX) hl hw)
  clear h hl hw
  go_enter Try.func109, Try.ntmps109
  go_upto_region 1 with fail
  rw [← hwa, ← hb0]
  clear hwa hb0
  refine RY.region_st wa (Below.refl _ _) (VJn b0 c wa.heap.size la k n l) (VJn_mono _ _ _ _ _ _ _) (fun _ W' => ∃ y1 y2 F, W'.rangeAt (b0 + 1) 0 [.int .i64 2, .string k, .string n, .string { data := #[] }, .slice y1 l.length y2] ∧ Rep W' false shLns F [lnsD l] [.slice y1 l.length y2] ∧ F.Nodup ∧ (∀ z ∈ F, wa.heap.size ≤ z) ∧ Below w.heap.size w W') 10 12 (by kernel_rfl) (by kernel_rfl) (by kernel_rfl) (by kernel_rfl) rfl [9] (by kernel_rfl) (by kernel_rfl) _ rfl rfl (by kernel_rfl) ?_ ?_ ?_
  · intro ii o' ho hii a X hX hk hd
    have zb0 := HX.out.later hX
    have zb0l := zb0.lt
    match ii, ho with
    | 0, ho =>
      injection ho with ho; subst ho
      have e1 : a.tmps[1]?.getD undef = .pointer (some ⟨b0, 0, none⟩) := (RY.ev_tmp a 1).trans ((hk 1 (by kernel_rfl)).trans rfl)
      exact Or.inl ⟨.pointer (some ⟨b0, 0, none⟩), X, by simp [execOp, go_sem, e1], Below.refl _ _, rfl⟩
    | 1, ho =>
      injection ho with ho; subst ho
      have e3 : a.tmps[3]?.getD undef = .pointer (some ⟨b0, 0, none⟩) := (RY.ev_tmp a 3).trans (hd 0 _ 3 rfl rfl ⟨⟨0, .data⟩, by simp, rfl, rfl⟩ (by decide))
      exact Or.inl ⟨.pointer (some ⟨b0, 0, none⟩), X, by simp [execOp, go_sem, e3], Below.refl _ _, rfl⟩
    | 2, ho =>
      injection ho with ho; subst ho
      have e4 : a.tmps[4]?.getD undef = .pointer (some ⟨b0, 0, none⟩) := (RY.ev_tmp a 4).trans (hd 1 _ 4 rfl rfl ⟨⟨1, .data⟩, by simp, rfl, rfl⟩ (by decide))
      have ycl_ := zb0.get 0 _ rfl
      exact Or.inl ⟨.string k, X, by simp [execOp, go_sem, e4, ycl_], Below.refl _ _, rfl⟩
    | 3, ho =>
      injection ho with ho; subst ho
      have e1 : a.tmps[1]?.getD undef = .pointer (some ⟨b0, 0, none⟩) := (RY.ev_tmp a 1).trans ((hk 1 (by kernel_rfl)).trans rfl)
      exact Or.inl ⟨.pointer (some ⟨b0, 0, none⟩), X, by simp [execOp, go_sem, e1], Below.refl _ _, rfl⟩
    | 4, ho =>
      injection ho with ho; subst ho
      have e6 : a.tmps[6]?.getD undef = .pointer (some ⟨b0, 0, none⟩) := (RY.ev_tmp a 6).trans (hd 3 _ 6 rfl rfl ⟨⟨3, .data⟩, by simp, rfl, rfl⟩ (by decide))
      exact Or.inl ⟨.pointer (some ⟨b0, 1, none⟩), X, by simp [execOp, go_sem, e6], Below.refl _ _, rfl⟩
    | 5, ho =>
      injection ho with ho; subst ho
      have e7 : a.tmps[7]?.getD undef = .pointer (some ⟨b0, 1, none⟩) := (RY.ev_tmp a 7).trans (hd 4 _ 7 rfl rfl ⟨⟨4, .data⟩, by simp, rfl, rfl⟩ (by decide))
      have ycl_ := zb0.get 1 _ rfl
      exact Or.inl ⟨.string n, X, by simp [execOp, go_sem, e7, ycl_], Below.refl _ _, rfl⟩
    | 6, ho =>
      injection ho with ho; subst ho
      have e1 : a.tmps[1]?.getD undef = .pointer (some ⟨b0, 0, none⟩) := (RY.ev_tmp a 1).trans ((hk 1 (by kernel_rfl)).trans rfl)
      exact Or.inl ⟨.pointer (some ⟨b0, 2, none⟩), X, by simp [execOp, go_sem, e1], Below.refl _ _, rfl⟩
    | 7, ho =>
      injection ho with ho; subst ho
      have e9 : a.tmps[9]?.getD undef = .pointer (some ⟨b0, 2, none⟩) := (RY.ev_tmp a 9).trans (hd 6 _ 9 rfl rfl ⟨⟨6, .data⟩, by simp, rfl, rfl⟩ (by decide))
      have ycl_ := zb0.get 2 _ rfl
      exact Or.inl ⟨.slice la l.length c, X, by simp [execOp, go_sem, e9, ycl_], Below.refl _ _, rfl⟩
    | 8, ho =>
      injection ho with ho; subst ho
      have e10 : a.tmps[10]?.getD undef = .slice la l.length c := (RY.ev_tmp a 10).trans (hd 7 _ 10 rfl rfl ⟨⟨7, .data⟩, by simp, rfl, rfl⟩ (by decide))
      refine Or.inr ⟨110, #[.slice la l.length c, .func (.func 111) #[] #[]], by simp [go_sem, e10], (HC.out X hX).mono ?_⟩
      rintro e W' ⟨v, F, rfl, r, nd, fr, hb⟩
      obtain ⟨x1, x2, hx⟩ := r.raw.len0
      subst hx
      exact ⟨_, rfl, hb, x1, x2, F, rfl, r, nd, fun z hz => Nat.le_trans hX.size (fr z hz)⟩
    | 9, ho =>
      injection ho with ho; subst ho
      have e5 : a.tmps[5]?.getD undef = .string k := (RY.ev_tmp a 5).trans (hd 2 _ 5 rfl rfl ⟨⟨2, .data⟩, by simp, rfl, rfl⟩ (by decide))
      have e8 : a.tmps[8]?.getD undef = .string n := (RY.ev_tmp a 8).trans (hd 5 _ 8 rfl rfl ⟨⟨5, .data⟩, by simp, rfl, rfl⟩ (by decide))
      obtain ⟨y1, y2, F11, q11, hR11, hN11, hF11⟩ := hd 8 _ 11 rfl rfl ⟨⟨8, .data⟩, by simp, rfl, rfl⟩ (by decide)
      have e11 : a.tmps[11]?.getD undef = .slice y1 l.length y2 := (RY.ev_tmp a 11).trans q11
      exact Or.inl ⟨_, X, by simp [execOp, go_sem, e5, e8, e11], Below.refl _ _, y1, y2, F11, rfl, hR11, hN11, hF11⟩
    | n + 10, ho => omega
  · intro a X vals hX hk hV hd
    obtain ⟨y1, y2, F, e1, hR, hN, hF⟩ := hV 9 (by decide)
    have e2 : a.eval (.tmp 12) = _ := (hd 9 _ 12 rfl rfl ⟨⟨9, .data⟩, by simp, rfl, rfl⟩ (by decide)).trans e1
    have t5 : a.eval (.tmp 2) = .pointer (some ⟨b0 + 1, 0, none⟩) := (hk 2 (by kernel_rfl)).trans rfl
    have hO := HO.out.later hX
    have hth : X.there (b0 + 1) 0 5 := uthere hO _ _ (by simp)
    have hm : Marks (fun z => z = b0 + 1) X (X.setCells (b0 + 1) 0 [.int .i64 2, .string k, .string n, .string { data := #[] }, .slice y1 l.length y2]) := mks_scs (S := fun z => z = b0 + 1) rfl _ _ _
    exact ⟨X.setCells (b0 + 1) 0 [.int .i64 2, .string k, .string n, .string { data := #[] }, .slice y1 l.length y2], RY.exec_store_mid _ _ _ rfl t5 e2 hth (by kernel_rfl) (by simp [Value.oneCell']), y1, y2, F, World.rangeAt_setCells_same _ _ _ _ hth, hR.keep hm (fun z hz e => by have := hF z hz; have := ZA.out; omega), hN, hF, hm.below (fun z e => by have := HZ.out; omega) (blw_trans HB.out hX)⟩
  · intro vals vs X hK hvs
    simp only [RY.putAll, Act.put, List.setIfInBounds_toArray, List.set_cons_zero, List.set_cons_succ]
    generalize vs 3 = s3
    generalize vs 4 = s4
    generalize vs 5 = s5
    generalize vs 6 = s6
    generalize vs 7 = s7
    generalize vs 8 = s8
    generalize vs 9 = s9
    generalize vs 10 = s10
    generalize vs 11 = s11
    generalize vs 12 = s12
    clear hvs
    obtain ⟨y1, y2, F, hrt, hR, hN, hF, hB⟩ := hK
    try go_wp2
    try simp only [Act.put]
    refine bodyPost_ret (v := .agg #[.int .i64 2, .string k, .string n, .string { data := #[] }, .slice y1 l.length y2]) (by simp [results, Try.results109, asAddr, run_loadVar_mid (P := Try.prog) _ _ _ 44 [.int .i64 2, .string k, .string n, .string { data := #[] }, .slice y1 l.length y2] _ hrt Try.underlying44 rfl (by kernel_rfl)]) rfl ?_
    exact ⟨[.int .i64 2, .string k, .string n, .string { data := #[] }, .slice y1 l.length y2], F ++ [], rfl, repSheetChange_mk _ _ _ _ hR, by rw [List.append_nil]; exact hN, fun z hz => by rw [List.append_nil] at hz; have := hF z hz; have := ZA.out; have := HZ.out; omega, hB⟩

set_option maxRecDepth 8000 in
set_option maxHeartbeats 16000000 in
theorem sheetSetTold (k n key : ByteArray) (l : List Pl.Ln) (la : Option Addr) (c : Nat) (w : World) (h : Raw w shLns [lnsD l] [.slice la l.length c]) (hl : l.length ≤ 4194304) (hw : ∀ x ∈ l, x.ws.length ≤ 4194304) : Calls Try.prog 115 #[.agg #[.string k, .string n, .string key, .slice la l.length c]] w (Ans shSheetChange (chD ⟨3, k, n, key, l⟩) w) := by
  obtain ⟨b0, hb0⟩ : ∃ b, b = w.heap.size := ⟨_, rfl⟩
  obtain ⟨wa, hwa⟩ : ∃ wa, wa = (w.alloc (.cells #[.string k, .string n, .string key, .slice la l.length c] 121)).alloc (.cells #[.int .i64 0, .string { data := #[] }, .string { data := #[] }, .string { data := #[] }, .slice none 0 0] 44) := ⟨_, rfl⟩
  have HB : Hid (Below w.heap.size w wa) := by show Below _ _ _; rw [hwa]; exact blw_alloc (blw_alloc (Below.refl _ _) _) _
  have HX : Hid (LBox wa b0 [.string k, .string n, .string key, .slice la l.length c]) := by show LBox _ _ _; rw [hwa, hb0]; exact (LBox.new w #[.string k, .string n, .string key, .slice la l.length c] _ _ rfl).past _
  have HO : Hid (OwnBlk wa (b0 + 1) 44 5) := by show OwnBlk _ _ _ _; rw [hwa]; exact OwnBlk.alloc_at3 _ _ _ _ _ rfl (by simp [hb0])
  have ZA : Hid (wa.heap.size = b0 + 2) := by show _ = _; rw [hwa]; simp [hb0]
  have HZ := uh hb0
  have HC := uh (fun (X : World) (hX : Below wa.heap.size wa X) => copyLnsI l (.slice la l.length c) X ((h.later HB.out).later hX) hl hw)
  clear h hl hw
  go_enter Try.func115, Try.ntmps115
  go_upto_region 1 with fail
  rw [← hwa, ← hb0]
  clear hwa hb0
  refine RY.region_st wa (Below.refl _ _) (VJs b0 c wa.heap.size la k n key l) (VJs_mono _ _ _ _ _ _ _ _) (fun _ W' => ∃ y1 y2 F, W'.rangeAt (b0 + 1) 0 [.int .i64 3, .string k, .string n, .string key, .slice y1 l.length y2] ∧ Rep W' false shLns F [lnsD l] [.slice y1 l.length y2] ∧ F.Nodup ∧ (∀ z ∈ F, wa.heap.size ≤ z) ∧ Below w.heap.size w W') 12 12 (by kernel_rfl) (by kernel_rfl) (by kernel_rfl) (by kernel_rfl) rfl [11] (by kernel_rfl) (by kernel_rfl) _ rfl rfl (by kernel_rfl) ?_ ?_ ?_
  · intro ii o' ho hii a X hX hk hd
    have zb0 := HX.out.later hX
    have zb0l := zb0.lt
    match ii, ho with
    | 0, ho =>
      injection ho with ho; subst ho
      have e1 : a.tmps[1]?.getD undef = .pointer (some ⟨b0, 0, none⟩) := (RY.ev_tmp a 1).trans ((hk 1 (by kernel_rfl)).trans rfl)
      exact Or.inl ⟨.pointer (some ⟨b0, 0, none⟩), X, by simp [execOp, go_sem, e1], Below.refl _ _, rfl⟩
    | 1, ho =>
      injection ho with ho; subst ho
      have e3 : a.tmps[3]?.getD undef = .pointer (some ⟨b0, 0, none⟩) := (RY.ev_tmp a 3).trans (hd 0 _ 3 rfl rfl ⟨⟨0, .data⟩, by simp, rfl, rfl⟩ (by decide))
      exact Or.inl ⟨.pointer (some ⟨b0, 0, none⟩), X, by simp [execOp, go_sem, e3], Below.refl _ _, rfl⟩
    | 2, ho =>
      injection ho with ho; subst ho
      have e4 : a.tmps[4]?.getD undef = .pointer (some ⟨b0, 0, none⟩) := (RY.ev_tmp a 4).trans (hd 1 _ 4 rfl rfl ⟨⟨1, .data⟩, by simp, rfl, rfl⟩ (by decide))
      have ycl_ := zb0.get 0 _ rfl
      exact Or.inl ⟨.string k, X, by simp [execOp, go_sem, e4, ycl_], Below.refl _ _, rfl⟩
    | 3, ho =>
      injection ho with ho; subst ho
      have e1 : a.tmps[1]?.getD undef = .pointer (some ⟨b0, 0, none⟩) := (RY.ev_tmp a 1).trans ((hk 1 (by kernel_rfl)).trans rfl)
      exact Or.inl ⟨.pointer (some ⟨b0, 0, none⟩), X, by simp [execOp, go_sem, e1], Below.refl _ _, rfl⟩
    | 4, ho =>
      injection ho with ho; subst ho
      have e6 : a.tmps[6]?.getD undef = .pointer (some ⟨b0, 0, none⟩) := (RY.ev_tmp a 6).trans (hd 3 _ 6 rfl rfl ⟨⟨3, .data⟩, by simp, rfl, rfl⟩ (by decide))
      exact Or.inl ⟨.pointer (some ⟨b0, 1, none⟩), X, by simp [execOp, go_sem, e6], Below.refl _ _, rfl⟩
    | 5, ho =>
      injection ho with ho; subst ho
      have e7 : a.tmps[7]?.getD undef = .pointer (some ⟨b0, 1, none⟩) := (RY.ev_tmp a 7).trans (hd 4 _ 7 rfl rfl ⟨⟨4, .data⟩, by simp, rfl, rfl⟩ (by decide))
      have ycl_ := zb0.get 1 _ rfl
      exact Or.inl ⟨.string n, X, by simp [execOp, go_sem, e7, ycl_], Below.refl _ _, rfl⟩
    | 6, ho =>
      injection ho with ho; subst ho
      have e1 : a.tmps[1]?.getD undef = .pointer (some ⟨b0, 0, none⟩) := (RY.ev_tmp a 1).trans ((hk 1 (by kernel_rfl)).trans rfl)
      exact Or.inl ⟨.pointer (some ⟨b0, 2, none⟩), X, by simp [execOp, go_sem, e1], Below.refl _ _, rfl⟩
    | 7, ho =>
      injection ho with ho; subst ho
      have e9 : a.tmps[9]?.getD undef = .pointer (some ⟨b0, 2, none⟩) := (RY.ev_tmp a 9).trans (hd 6 _ 9 rfl rfl ⟨⟨6, .data⟩, by simp, rfl, rfl⟩ (by decide))
      have ycl_ := zb0.get 2 _ rfl
      exact Or.inl ⟨.string key, X, by simp [execOp, go_sem, e9, ycl_], Below.refl _ _, rfl⟩
    | 8, ho =>
      injection ho with ho; subst ho
      have e1 : a.tmps[1]?.getD undef = .pointer (some ⟨b0, 0, none⟩) := (RY.ev_tmp a 1).trans ((hk 1 (by kernel_rfl)).trans rfl)
      exact Or.inl ⟨.pointer (some ⟨b0, 3, none⟩), X, by simp [execOp, go_sem, e1], Below.refl _ _, rfl⟩
    | 9, ho =>
      injection ho with ho; subst ho
      have e11 : a.tmps[11]?.getD undef = .pointer (some ⟨b0, 3, none⟩) := (RY.ev_tmp a 11).trans (hd 8 _ 11 rfl rfl ⟨⟨8, .data⟩, by simp, rfl, rfl⟩ (by decide))
      have ycl_ := zb0.get 3 _ rfl
      exact Or.inl ⟨.slice la l.length c, X, by simp [execOp, go_sem, e11, ycl_], Below.refl _ _, rfl⟩
    | 10, ho =>
      injection ho with ho; subst ho
      have e12 : a.tmps[12]?.getD undef = .slice la l.length c := (RY.ev_tmp a 12).trans (hd 9 _ 12 rfl rfl ⟨⟨9, .data⟩, by simp, rfl, rfl⟩ (by decide))
      refine Or.inr ⟨110, #[.slice la l.length c, .func (.func 111) #[] #[]], by simp [go_sem, e12], (HC.out X hX).mono ?_⟩
      rintro e W' ⟨v, F, rfl, r, nd, fr, hb⟩
      obtain ⟨x1, x2, hx⟩ := r.raw.len0
      subst hx
      exact ⟨_, rfl, hb, x1, x2, F, rfl, r, nd, fun z hz => Nat.le_trans hX.size (fr z hz)⟩
    | 11, ho =>
      injection ho with ho; subst ho
      have e5 : a.tmps[5]?.getD undef = .string k := (RY.ev_tmp a 5).trans (hd 2 _ 5 rfl rfl ⟨⟨2, .data⟩, by simp, rfl, rfl⟩ (by decide))
      have e8 : a.tmps[8]?.getD undef = .string n := (RY.ev_tmp a 8).trans (hd 5 _ 8 rfl rfl ⟨⟨5, .data⟩, by simp, rfl, rfl⟩ (by decide))
      have e10 : a.tmps[10]?.getD undef = .string key := (RY.ev_tmp a 10).trans (hd 7 _ 10 rfl rfl ⟨⟨7, .data⟩, by simp, rfl, rfl⟩ (by decide))
      obtain ⟨y1, y2, F13, q13, hR13, hN13, hF13⟩ := hd 10 _ 13 rfl rfl ⟨⟨10, .data⟩, by simp, rfl, rfl⟩ (by decide)
      have e13 : a.tmps[13]?.getD undef = .slice y1 l.length y2 := (RY.ev_tmp a 13).trans q13
      exact Or.inl ⟨_, X, by simp [execOp, go_sem, e5, e8, e10, e13], Below.refl _ _, y1, y2, F13, rfl, hR13, hN13, hF13⟩
    | n + 12, ho => omega
  · intro a X vals hX hk hV hd
    obtain ⟨y1, y2, F, e1, hR, hN, hF⟩ := hV 11 (by decide)
    have e2 : a.eval (.tmp 14) = _ := (hd 11 _ 14 rfl rfl ⟨⟨11, .data⟩, by simp, rfl, rfl⟩ (by decide)).trans e1
    have t5 : a.eval (.tmp 2) = .pointer (some ⟨b0 + 1, 0, none⟩) := (hk 2 (by kernel_rfl)).trans rfl
    have hO := HO.out.later hX
    have hth : X.there (b0 + 1) 0 5 := uthere hO _ _ (by simp)
    have hm : Marks (fun z => z = b0 + 1) X (X.setCells (b0 + 1) 0 [.int .i64 3, .string k, .string n, .string key, .slice y1 l.length y2]) := mks_scs (S := fun z => z = b0 + 1) rfl _ _ _
    exact ⟨X.setCells (b0 + 1) 0 [.int .i64 3, .string k, .string n, .string key, .slice y1 l.length y2], RY.exec_store_mid _ _ _ rfl t5 e2 hth (by kernel_rfl) (by simp [Value.oneCell']), y1, y2, F, World.rangeAt_setCells_same _ _ _ _ hth, hR.keep hm (fun z hz e => by have := hF z hz; have := ZA.out; omega), hN, hF, hm.below (fun z e => by have := HZ.out; omega) (blw_trans HB.out hX)⟩
  · intro vals vs X hK hvs
    simp only [RY.putAll, Act.put, List.setIfInBounds_toArray, List.set_cons_zero, List.set_cons_succ]
    generalize vs 3 = s3
    generalize vs 4 = s4
    generalize vs 5 = s5
    generalize vs 6 = s6
    generalize vs 7 = s7
    generalize vs 8 = s8
    generalize vs 9 = s9
    generalize vs 10 = s10
    generalize vs 11 = s11
    generalize vs 12 = s12
    generalize vs 13 = s13
    generalize vs 14 = s14
    clear hvs
    obtain ⟨y1, y2, F, hrt, hR, hN, hF, hB⟩ := hK
    try go_wp2
    try simp only [Act.put]
    refine bodyPost_ret (v := .agg #[.int .i64 3, .string k, .string n, .string key, .slice y1 l.length y2]) (by simp [results, Try.results115, asAddr, run_loadVar_mid (P := Try.prog) _ _ _ 44 [.int .i64 3, .string k, .string n, .string key, .slice y1 l.length y2] _ hrt Try.underlying44 rfl (by kernel_rfl)]) rfl ?_
    exact ⟨[.int .i64 3, .string k, .string n, .string key, .slice y1 l.length y2], F ++ [], rfl, repSheetChange_mk _ _ _ _ hR, by rw [List.append_nil]; exact hN, fun z hz => by rw [List.append_nil] at hz; have := hF z hz; have := ZA.out; have := HZ.out; omega, hB⟩

end Go.Proofs.Ytojcopamegmeeaa

namespace Go.Proofs.Ytojcopamegmeeaa
open Go.RowKit Go.Deep

theorem cnt_blk (b : Pl.Bl) : cntL (blD b) = 2 + cntL (b.lines.flatMap lnD) := by
  unfold blD lnsD
  rw [cntL, cntL, cntL, cntL]; omega
theorem cnt_shB {s : List Pl.Bl} (t : Typ shSheet [blsD s]) (h : wtL [blsD s] ≤ 1048576) : cntL (s.flatMap blD) ≤ 33554433 := by
  have h2 := cnt_wt t (by simp [shSheet, shSheetBlock, shSheetLine, shB])
  have h3 : shSheet.length = 1 := rfl
  have h4 : cntL [blsD s] = cntL (s.flatMap blD) := by unfold blsD; rw [cntL, cntL]; rfl
  omega

end Go.Proofs.Ytojcopamegmeeaa

namespace Go.Proofs.Ytojcopamegmeeaa
open Go.RowKit Go.Deep

theorem cnt_ch (c : Pl.Ch) : cntL (chD c) = 4 + cntL (c.lines.flatMap lnD) := by
  unfold chD lnsD
  rw [cntL, cntL, cntL, cntL, cntL, cntL]; omega
theorem cnt_key (a b : Pl.Bl) (r : Pl.Ru) : cntL ((Pl.keyCh a b r).flatMap chD) ≤ 4 + cntL (b.lines.flatMap lnD) := by
  unfold Pl.keyCh
  split
  · simp [cntL]
  · rw [List.flatMap_singleton, cnt_ch]
    have := cnt_filter (fun x => x.key.toList == r.key.toList) b.lines
    show 4 + cntL ((b.lines.filter fun x => x.key.toList == r.key.toList).flatMap lnD) ≤ _
    omega
theorem cnt_keys (a b : Pl.Bl) : ∀ rs : List Pl.Ru, cntL ((rs.flatMap (Pl.keyCh a b)).flatMap chD) ≤ rs.length * (4 + cntL (b.lines.flatMap lnD))
  | [] => by simp [cntL]
  | r :: rs => by
    have h1 := cnt_keys a b rs
    have h2 := cnt_key a b r
    rw [List.flatMap_cons, List.flatMap_append, cntL_app, List.length_cons, Nat.succ_mul]; omega
theorem cnt_one (a : List Pl.Bl) (y : Pl.Bl) : cntL ((Pl.diffOne a y).flatMap chD) ≤ 24 * cntL (blD y) := by
  have hb := cnt_blk y
  unfold Pl.diffOne
  split
  · rw [List.flatMap_singleton, cnt_ch]
    show 4 + cntL (y.lines.flatMap lnD) ≤ _
    omega
  · rename_i k _
    have h1 := cnt_keys (a.getD k Pl.blNo) y (Pl.rulesOf (a.getD k Pl.blNo).kind)
    have h2 := rules_len (a.getD k Pl.blNo).kind
    have h3 : (Pl.rulesOf (a.getD k Pl.blNo).kind).length * (4 + cntL (y.lines.flatMap lnD)) ≤ 12 * (4 + cntL (y.lines.flatMap lnD)) := Nat.mul_le_mul_right _ h2
    show cntL (((Pl.rulesOf (a.getD k Pl.blNo).kind).flatMap (Pl.keyCh (a.getD k Pl.blNo) y)).flatMap chD) ≤ _
    omega
theorem cnt_ones (a : List Pl.Bl) : ∀ b : List Pl.Bl, cntL ((b.flatMap (Pl.diffOne a)).flatMap chD) ≤ 24 * cntL (b.flatMap blD)
  | [] => by simp [cntL]
  | y :: b => by
    have h1 := cnt_ones a b
    have h2 := cnt_one a y
    rw [List.flatMap_cons, List.flatMap_append, cntL_app, List.flatMap_cons, cntL_app]; omega
theorem cnt_gone (l : List Pl.Bl) : cntL ((l.map Pl.goneCh).flatMap chD) = 4 * l.length := by
  induction l with
  | nil => simp [cntL]
  | cons x l ih =>
    rw [List.map_cons, List.flatMap_cons, cntL_app, ih, cnt_ch, List.length_cons]
    show 4 + cntL (([] : List Pl.Ln).flatMap lnD) + _ = _
    simp only [List.flatMap_nil, cntL]; omega
theorem diff_cnt {a b : List Pl.Bl} (t : Typ shSheet [blsD b]) (h : wtL [blsD b] ≤ 1048576) : cntL ((Pl.diffOut a b).flatMap chD) ≤ 1000000000 := by
  unfold Pl.diffOut
  split
  · rename_i hv
    rw [Bool.and_eq_true] at hv
    have h1 := Pl.valid_len hv.1
    have h2 := cnt_ones a b
    have h3 := cnt_shB t h
    have h4 := List.length_filter_le (Pl.noIn b) a
    rw [List.flatMap_append, cntL_app, cnt_gone]
    omega
  · simp [cntL]

end Go.Proofs.Ytojcopamegmeeaa

namespace Go.Proofs.Ytojcopamegmeeaa
open Go.RowKit Go.Deep

/-- How an edit is told. -/
theorem edTold {B W : World} {c : Pl.Ch} {u : Value} (h : EdV B W c u) (hb : Below B.heap.size B W) (hl : c.lines.length ≤ 4194304) (hw : ∀ x ∈ c.lines, x.ws.length ≤ 4194304) :
    ∃ iv, (u = .iface 91 iv ∧ (∀ X, (method 258 91 iv "loop.example/wharfdesk/impl.told").run Try.prog X = .ok (108, iv) X) ∧ Calls Try.prog 108 #[iv] W (Ans shSheetChange (chD c) W)) ∨ (u = .iface 94 iv ∧ (∀ X, (method 258 94 iv "loop.example/wharfdesk/impl.told").run Try.prog X = .ok (109, iv) X) ∧ Calls Try.prog 109 #[iv] W (Ans shSheetChange (chD c) W)) ∨ (u = .iface 121 iv ∧ (∀ X, (method 258 121 iv "loop.example/wharfdesk/impl.told").run Try.prog X = .ok (115, iv) X) ∧ Calls Try.prog 115 #[iv] W (Ans shSheetChange (chD c) W)) ∨ (u = .iface 119 iv ∧ (∀ X, (method 258 119 iv "loop.example/wharfdesk/impl.told").run Try.prog X = .ok (114, iv) X) ∧ Calls Try.prog 114 #[iv] W (Ans shSheetChange (chD c) W)) := by
  cases h with
  | gone k n => exact ⟨_, Or.inl ⟨rfl, fun X => by kernel_rfl, sheetGoneTold k n W⟩⟩
  | new k n l a c h => exact ⟨_, Or.inr (Or.inl ⟨rfl, fun X => by kernel_rfl, sheetNewTold k n l a c W (h.later hb) hl hw⟩)⟩
  | set k n key l a c xs h hr => exact ⟨_, Or.inr (Or.inr (Or.inl ⟨rfl, fun X => by kernel_rfl, sheetSetTold k n key l a c W (sv_raw h hr hb) hl hw⟩))⟩
  | unset k n key => exact ⟨_, Or.inr (Or.inr (Or.inr ⟨rfl, fun X => by kernel_rfl, sheetUnsetTold k n key W⟩))⟩
theorem diff_lines (a b : List Pl.Bl) (hlb : ∀ z ∈ b, z.lines.length ≤ 4194304 ∧ ∀ x ∈ z.lines, x.ws.length ≤ 4194304) : ∀ c ∈ (a.filter (Pl.noIn b)).map Pl.goneCh ++ b.flatMap (Pl.diffOne a), c.lines.length ≤ 4194304 ∧ ∀ x ∈ c.lines, x.ws.length ≤ 4194304 := by
  intro c hc
  rcases List.mem_append.1 hc with h | h
  · obtain ⟨x, _, rfl⟩ := List.mem_map.1 h
    exact ⟨by show (0 : Nat) ≤ _; omega, fun x hx => by cases hx⟩
  · obtain ⟨y, hy, h⟩ := List.mem_flatMap.1 h
    have hz := hlb y hy
    unfold Pl.diffOne at h
    split at h
    · obtain rfl := List.mem_singleton.1 h
      exact hz
    · obtain ⟨r, _, h⟩ := List.mem_flatMap.1 h
      unfold Pl.keyCh at h
      split at h
      · cases h
      · obtain rfl := List.mem_singleton.1 h
        exact ⟨Nat.le_trans (Pl.linesOf_len _ _) hz.1, fun x hx => hz.2 x (List.mem_filter.1 hx).1⟩
theorem diff_flat_len (a b : List Pl.Bl) (ha : a.length ≤ 60) (hb : b.length ≤ 60) : ((a.filter (Pl.noIn b)).map Pl.goneCh ++ b.flatMap (Pl.diffOne a)).length ≤ 800 := by
  have := diff_list_len a b ha b.length hb (Nat.le_refl _)
  unfold diffTo at this
  rw [List.take_length] at this
  exact this
theorem Try.under_chsJ : Try.prog.underlying 26 = some (.slice 44) := by kernel_rfl
theorem Try.info_chJ : (Try.prog.info? 44).map (fun i => (i.zero, i.size, i.bytes)) = some (some (.agg #[.int .i64 0, .string { data := #[] }, .string { data := #[] }, .string { data := #[] }, .slice none 0 0]), 5, 80) := by kernel_rfl

set_option maxRecDepth 8000 in
set_option maxHeartbeats 16000000 in
theorem sheetDiffI (a b : List Pl.Bl) (av bv : Value) (w : World) (ha : Raw w shBls [blsD a] [av]) (hb : Raw w shBls [blsD b] [bv]) (hza : okTx a) (hzb : okTx b) (hw : Pl.wsh a + Pl.wsh b ≤ 1048576) :
    Calls Try.prog 7 #[.agg #[av], .agg #[bv]] w (AnsL shChs (chsD (Pl.diffOut a b)) w) := by
  obtain ⟨aa, ac, rfl⟩ := ha.len0
  obtain ⟨ba, bc, rfl⟩ := hb.len0
  have HA := uh ha
  have HB := uh hb
  have HZA := uh hza
  have HZB := uh hzb
  have HLA := uh (sheet_small a (by omega))
  have HLB := uh (sheet_small b (by omega))
  have HWA : Hid (wtL [blsD a] ≤ 1048576) := by show _ ≤ _; rw [wt_sheet]; omega
  have HWB : Hid (wtL [blsD b] ≤ 1048576) := by show _ ≤ _; rw [wt_sheet]; omega
  have HDE : Hid (Pl.diffOut a b = if Pl.validS a && Pl.validS b then (a.filter (Pl.noIn b)).map Pl.goneCh ++ b.flatMap (Pl.diffOne a) else []) := rfl
  clear ha hb hza hzb hw
  obtain ⟨na, hna⟩ : ∃ n, n = a.length := ⟨_, rfl⟩
  obtain ⟨nb, hnb⟩ : ∃ n, n = b.length := ⟨_, rfl⟩
  have HNA := uh hna
  have HNB := uh hnb
  have e1 : a.length = na := hna.symm
  have e2 : b.length = nb := hnb.symm
  clear hna hnb
  rw [e1, e2]
  clear e1 e2
  obtain ⟨b0, hb0⟩ : ∃ b, b = w.heap.size := ⟨_, rfl⟩
  obtain ⟨wa, hwa⟩ : ∃ wa, wa = (w.alloc (.cells #[.slice aa na ac] 30)).alloc (.cells #[.slice ba nb bc] 30) := ⟨_, rfl⟩
  have HBW : Hid (Below w.heap.size w wa) := by show Below _ _ _; rw [hwa]; exact blw_alloc (blw_alloc (Below.refl _ _) _) _
  have HA00 : Hid (LBox wa b0 [.slice aa na ac]) := by show LBox _ _ _; rw [hwa, hb0]; exact (LBox.new w #[.slice aa na ac] _ _ rfl).past _
  have HB00 : Hid (LBox wa (b0 + 1) [.slice ba nb bc]) := by show LBox _ _ _; rw [hwa]; exact LBox.new _ #[.slice ba nb bc] _ _ (by simp [hb0])
  have HAW : Hid (Raw wa shBls [blsD a] [.slice aa na ac]) := by show Raw _ _ _ _; rw [HNA.out]; exact HA.out.later HBW.out
  have HBB : Hid (Raw wa shBls [blsD b] [.slice ba nb bc]) := by show Raw _ _ _ _; rw [HNB.out]; exact HB.out.later HBW.out
  go_enter Try.func7, Try.ntmps7
  go_upto_region 1 with fail
  rw [← hwa, ← hb0]
  clear hwa hb0 HA HB
  have xa := HA00.out.at_
  have xal := HA00.out.lt
  have HV1 := uh (sheetValidI a (.slice aa na ac) wa HAW.out HZA.out HWA.out)
  obtain ⟨v1, hv1⟩ : ∃ x, x = Pl.validS a := ⟨_, rfl⟩
  obtain ⟨v2, hv2⟩ : ∃ x, x = Pl.validS b := ⟨_, rfl⟩
  have HVA := uh hv1
  have HVB := uh hv2
  rw [← hv1] at HV1 HDE
  rw [← hv2] at HDE
  clear hv1 hv2
  go_wp2_with (refine wpList_load_mid rfl 30 _ rfl b0 0 rfl [.slice aa na ac] _ xa Try.underlying30 rfl (by kernel_rfl) ?_)
  refine HV1.out.mono ?_
  rintro e w2 ⟨rfl, hb2⟩
  have HB2 := uh (blw_trans HBW.out hb2)
  have HA2 := uh (HA00.out.later hb2)
  have HC2 := uh (HB00.out.later hb2)
  have HWA2 := uh hb2
  clear hb2 HV1 xa xal
  have HEMP : Hid (∀ X, Below w.heap.size w X → Pl.diffOut a b = [] → AnsL shChs (chsD (Pl.diffOut a b)) w (.returned (.slice none 0 0)) X) := fun X hX he => by
    rw [he]; exact ⟨_, [], rfl, .emp _ _ _ rfl .nil, List.nodup_nil, by simp, hX⟩
  cases v1
  · have HX := uh (HEMP.out w2 HB2.out HDE.out)
    clear HEMP
    go_wp2
    go_ret
    exact HX.out
  have xb := HC2.out.at_
  have xbl := HC2.out.lt
  have HV2 : Hid (Calls Try.prog 19 #[.agg #[.slice ba nb bc]] w2 fun e w' => e = .returned (.bool v2) ∧ Below w2.heap.size w2 w') := by rw [HVB.out]; exact sheetValidI b (.slice ba nb bc) w2 (HBB.out.later HWA2.out) HZB.out HWB.out
  go_wp2_with (refine uload_g (by kernel_rfl) 30 _ rfl (b0 + 1) 0 rfl [.slice ba nb bc] _ xb Try.underlying30 rfl (by kernel_rfl) ?_)
  refine HV2.out.mono ?_
  rintro e w3 ⟨rfl, hb3⟩
  have HB3 := uh (blw_trans HB2.out hb3)
  have HA3 := uh (HA2.out.later hb3)
  have HC3 := uh (HC2.out.later hb3)
  have HWA3 := uh (blw_trans HWA2.out hb3)
  clear hb3 HV2 xb xbl
  cases v2
  · have HX := uh (HEMP.out w3 HB3.out HDE.out)
    clear HEMP
    go_wp2
    go_ret
    exact HX.out
  clear HEMP
  replace HDE : Hid (Pl.diffOut a b = (a.filter (Pl.noIn b)).map Pl.goneCh ++ b.flatMap (Pl.diffOne a)) := HDE.out
  have HLI := uh (diff_lines a b HLB.out)
  have HLL := uh (diff_flat_len a b (Pl.valid_len HVA.out.symm) (Pl.valid_len HVB.out.symm))
  have HCE := uh (sheetEditsI a b (.slice aa na ac) (.slice ba nb bc) w3 (HAW.out.later HWA3.out) (HBB.out.later HWA3.out) HVA.out.symm HVB.out.symm HZA.out HZB.out (fun z hz => (HLA.out z hz).1) (fun z hz => (HLB.out z hz).1))
  obtain ⟨L, hL⟩ : ∃ L, L = (a.filter (Pl.noIn b)).map Pl.goneCh ++ b.flatMap (Pl.diffOne a) := ⟨_, rfl⟩
  rw [← hL] at HCE HLI HLL HDE
  clear hL
  have x0 := HA3.out.get 0 _ rfl
  have xl := HA3.out.lt
  have y0 := HC3.out.get 0 _ rfl
  have yl := HC3.out.lt
  go_wp2_with fail
  refine HCE.out.mono ?_
  rintro e wk ⟨ve, xs, rfl, hE, hbk⟩
  obtain ⟨ea, ec, hee⟩ := hE.shape
  subst hee
  have HE := uh hE
  have HBK := uh (blw_trans HB3.out hbk)
  have HW3 := uh hbk
  obtain ⟨n, hn⟩ : ∃ n, n = L.length := ⟨_, rfl⟩
  have HN := uh hn
  rw [← hn] at HE ⊢
  have hnl : n ≤ 800 := by rw [hn]; exact HLL.out
  clear hE hbk HCE x0 xl y0 yl hn
  go_wp2
  go_loopw [5, 22] (fun vv i wr => ∃ (q : Nat) (F : List Nat), q ≤ n ∧ i = .int .i64 q ∧ Rep wr false shChs F [.row q ((L.take q).flatMap chD)] [vv] ∧ F.Nodup ∧ (∀ b ∈ F, wk.heap.size ≤ b) ∧ Below wk.heap.size wk wr) (fun _ i _ => n - (intOf i).toNat)
  case atStart => exact ⟨0, [], Nat.zero_le _, rfl, .emp _ _ _ rfl .nil, List.nodup_nil, by simp, Below.refl _ _⟩
  case round =>
    obtain ⟨q, F2, hq, rfl, hR, hN2, hF, hB⟩ := hrel
    have HR2 := uh hR
    have HN2 := uh (And.intro hN2 hF)
    have HB2' := uh hB
    obtain ⟨va2, vc2, hva⟩ := hR.raw.len0
    subst hva
    clear hR hN2 hF hB
    by_cases hlt : q < n
    rotate_left
    · obtain rfl : q = n := by omega
      have hnlt : ¬ ((q : Int) < (q : Int)) := by omega
      have HR5 : Hid (Rep wr false shChs F2 [chsD (Pl.diffOut a b)] [.slice va2 q vc2]) := by
        have h5 := HR2.out
        rw [List.take_of_length_le (by have := HN.out; omega)] at h5
        show Rep _ _ _ _ _ _
        rw [HDE.out]; unfold chsD; rw [← HN.out]; exact h5
      go_wp2
      go_ret
      exact ⟨_, F2, rfl, HR5.out, HN2.out.1, fun z hz => Nat.le_trans HBK.out.size (HN2.out.2 z hz), blw_trans HBK.out HB2'.out⟩
    have hqL : q < L.length := by have := HN.out; omega
    have HSR := uh (HE.out.later HB2'.out).src
    have hEV := HSR.out.els q hqL
    rcases HSR.out.at_ with ⟨e0, _⟩ | ⟨p, o, c, hv, hp, hc⟩
    · omega
    rw [← HN.out] at hv
    injection hv with g1 _ g3
    subst g1; subst g3
    have hqx : q < xs.length := by have := HSR.out.len; omega
    have hcell := hc q (xs.getD q .nilIface) (by simp [hqx])
    obtain ⟨u0, hu0⟩ : ∃ z, z = xs.getD q .nilIface := ⟨_, rfl⟩
    rw [← hu0] at hEV hcell
    have HTK := uh (Pl.take_snocD Pl.chNo L q hqL)
    have HCM : Hid (L.getD q Pl.chNo ∈ L) := by
      show _ ∈ _
      have e : L.getD q Pl.chNo = L[q] := by simp [hqL]
      rw [e]; exact List.getElem_mem hqL
    obtain ⟨ch, hch⟩ : ∃ z, z = L.getD q Pl.chNo := ⟨_, rfl⟩
    rw [← hch] at hEV HTK HCM
    obtain ⟨iv, hcase⟩ := edTold hEV (blw_trans HW3.out HB2'.out) (HLI.out ch HCM.out).1 (HLI.out ch HCM.out).2
    have hm0 : (0 : Int) ≤ (q : Int) := by omega
    have hm3 : (q : Int) < (n : Int) := by omega
    clear hch hEV hc hqx HSR hu0
    rcases hcase with ⟨hu, hmeth, hcall⟩ | ⟨hu, hmeth, hcall⟩ | ⟨hu, hmeth, hcall⟩ | ⟨hu, hmeth, hcall⟩
    all_goals
      subst hu
      have HC := uh hcall
      clear hcall
      go_wp2_with fail
      refine HC.out.mono ?_
      rintro e w1 ⟨cc, FV, rfl, rep, nd, fr, hb⟩
      obtain ⟨F3, v3, rfl, rfl, r3⟩ := repSheetChange rep
      obtain ⟨a1, m1, hv3⟩ := r3.raw.len0
      subst hv3
      clear r3
      have HFV : Hid ((F3 ++ []).Nodup ∧ ∀ b ∈ F3 ++ [], wr.heap.size ≤ b) := ⟨nd, fr⟩
      have HFl : Hid (∀ b ∈ F2, b < wr.heap.size) := HR2.out.lt
      have HRG := uh rep
      have HB4 := uh (blw_trans HB2'.out hb)
      replace HR2 := uh (HR2.out.later hb)
      have HZ1 : Hid (wr.heap.size ≤ w1.heap.size ∧ wk.heap.size ≤ wr.heap.size) := ⟨hb.size, HB2'.out.size⟩
      clear HC rep nd fr hb hcell hmeth
      obtain ⟨wb, hwb⟩ : ∃ wb, wb = w1.alloc (.cells #[.int .i64 ch.what, .string ch.kind, .string ch.name, .string ch.key, .slice a1 ch.lines.length m1] 44) := ⟨_, rfl⟩
      have hbb : Below w1.heap.size w1 wb := by rw [hwb]; exact blw_alloc (Below.refl _ _) _
      obtain ⟨v', x3, F4, row, hrun, rep, nd, hsub, hgr, hrow⟩ := rep_append (P := Try.prog) 26 26 44 5 80 _ Try.under_chsJ Try.info_chJ rfl (by decide) shSheetChange rfl wb (HR2.out.later hbb) HN2.out.1 (by omega) (F' := F3 ++ []) (d := chD ch) (c' := [.int .i64 ch.what, .string ch.kind, .string ch.name, .string ch.key, .slice a1 ch.lines.length m1]) ⟨w1.heap.size, 0, none⟩ (HRG.out.later hbb) HFV.out.1 (fun b hb e => by have := HFV.out.2 b hb; have := HFl.out b e; omega) (by rw [hwb]; exact news_new w1 #[.int .i64 ch.what, .string ch.kind, .string ch.name, .string ch.key, .slice a1 ch.lines.length m1] 44)
      obtain ⟨wx, wc, hvx⟩ := rep.raw.len0
      subst hvx
      rw [hwb] at hrun
      have HB3' : Hid (Below wk.heap.size wk x3) := blw_grown (blw_trans HB4.out hbb) hgr (fun b e => HN2.out.2 b (hrow b e))
      have HS3 : Hid (∀ b ∈ F4, wk.heap.size ≤ b) := fun b hb => by
        rcases hsub b hb with e | e | e
        · exact HN2.out.2 b e
        · have := HFV.out.2 b e; have := HZ1.out.2; omega
        · have := hbb.size; have := HZ1.out; omega
      have HR4 : Hid (Rep x3 false shChs F4 [.row (q + 1) ((L.take (q + 1)).flatMap chD)] [.slice wx (q + 1) wc]) := by
        show Rep _ _ _ _ _ _
        rw [HTK.out, List.flatMap_append, List.flatMap_singleton]
        exact rep
      have HN4 : Hid F4.Nodup := nd
      clear rep nd hsub hgr hrow hbb hwb
      go_wp2_with (at_builtin; refine Go.Lib.wpList_append_run _ rfl _ _ 26 26 rfl _ _ rfl rfl _ x3 hrun ?_)
      clear hrun HR2 HN2
      go_roundw
      case rel => exact ⟨q + 1, F4, by omega, by go_num, HR4.out, HN4.out, HS3.out, HB3'.out⟩
      case measure => simp [intOf]; omega

end Go.Proofs.Ytojcopamegmeeaa
