/-
  Sheets: lines and blocks as they are written: the program.
-/
import Derived.Test.YteemfpocmmainaaDoorEIu
import Derived.Test.YteemfpocmmainaaDoorEIw
namespace Go.Proofs.YteemfpocmmainaaDoor
open Go.RowKit Go.Deep
def VLa (b : Nat) (bl : Nat) (x : Pl.Ln) : Nat → Value → World → Prop
  | 0, vv, _ => vv = .pointer (some ⟨b, 0, none⟩)
  | 1, vv, _ => vv = .pointer (some ⟨b, 0, none⟩)
  | 2, vv, _ => vv = .pointer (some ⟨b, 0, none⟩)
  | 3, vv, _ => vv = .pointer (some ⟨bl, 0, none⟩)
  | 4, vv, _ => vv = .string x.key
  | _, _, _ => True
theorem VLa_mono (b : Nat) (bl : Nat) (x : Pl.Ln) : ∀ jj vv W W', Below W.heap.size W W' → VLa b bl x jj vv W → VLa b bl x jj vv W' := by
  intro jj vv W W' hb h
  match jj with
  | 0 => exact h
  | 1 => exact h
  | 2 => exact h
  | 3 => exact h
  | 4 => exact h
  | n + 5 => exact trivial
def VLb (b : Nat) (y : ByteArray) (z : ByteArray) : Nat → Value → World → Prop
  | 0, vv, _ => vv = .pointer (some ⟨b, 0, none⟩)
  | 1, vv, _ => vv = .pointer (some ⟨b, 0, none⟩)
  | 2, vv, _ => vv = .pointer (some ⟨b, 0, none⟩)
  | 3, vv, _ => vv = .string y
  | 4, vv, _ => vv = .string (Pl.wordOut y)
  | 5, vv, _ => vv = .string z
  | _, _, _ => True
theorem VLb_mono (b : Nat) (y : ByteArray) (z : ByteArray) : ∀ jj vv W W', Below W.heap.size W W' → VLb b y z jj vv W → VLb b y z jj vv W' := by
  intro jj vv W W' hb h
  match jj with
  | 0 => exact h
  | 1 => exact h
  | 2 => exact h
  | 3 => exact h
  | 4 => exact h
  | 5 => exact h
  | n + 6 => exact trivial
def VBk (b : Nat) (bl : Nat) (x : Pl.Bl) (z1 : ByteArray) (z2 : ByteArray) (z3 : ByteArray) : Nat → Value → World → Prop
  | 0, vv, _ => vv = .pointer (some ⟨b, 0, none⟩)
  | 1, vv, _ => vv = .pointer (some ⟨b, 0, none⟩)
  | 2, vv, _ => vv = .pointer (some ⟨b, 0, none⟩)
  | 3, vv, _ => vv = .pointer (some ⟨bl, 0, none⟩)
  | 4, vv, _ => vv = .string x.kind
  | 5, vv, _ => vv = .string z1
  | 6, vv, _ => vv = .pointer (some ⟨bl, 1, none⟩)
  | 7, vv, _ => vv = .string x.name
  | 8, vv, _ => vv = .string z2
  | 9, vv, _ => vv = .string z3
  | _, _, _ => True
theorem VBk_mono (b : Nat) (bl : Nat) (x : Pl.Bl) (z1 : ByteArray) (z2 : ByteArray) (z3 : ByteArray) : ∀ jj vv W W', Below W.heap.size W W' → VBk b bl x z1 z2 z3 jj vv W → VBk b bl x z1 z2 z3 jj vv W' := by
  intro jj vv W W' hb h
  match jj with
  | 0 => exact h
  | 1 => exact h
  | 2 => exact h
  | 3 => exact h
  | 4 => exact h
  | 5 => exact h
  | 6 => exact h
  | 7 => exact h
  | 8 => exact h
  | 9 => exact h
  | n + 10 => exact trivial

set_option maxRecDepth 8000 in
set_option maxHeartbeats 16000000 in
theorem lineI (w0 w : World) (b : Nat) (l : List UInt8) (x : Pl.Ln) (a1 : Option Addr) (c1 : Nat) (hb0 : Below w0.heap.size w0 w) (hA : Raw w0 shTxs [.row x.ws.length (txD x.ws)] [.slice a1 x.ws.length c1]) (hbw0 : BW w0.heap.size b l w) (hbl : b < w.heap.size) (hne : l.length ≠ 0) (hsz : l.length ≤ 1099411627776) (hwl : Pl.wln x ≤ 1048576) :
    Calls Tryd.prog 31 #[.pointer (some ⟨b, 0, none⟩), .agg #[.string x.key, .slice a1 x.ws.length c1]] w fun e w' => e = .returned (.tuple #[]) ∧ BW w0.heap.size b (l ++ Pl.lineT x) w' ∧ KB w0.heap.size b w w' ∧ w0.heap.size ≤ w'.heap.size := by
  have HB0 := uh hb0
  have HA := uh hA
  have HNE := uh hne
  have HSZ := uh (And.intro (show l.length + x.key.size ≤ 1099511627776 by unfold Pl.wln at hwl; omega) hwl)
  have hlL := hsz
  obtain ⟨wa, hwa⟩ : ∃ wa, wa = w.alloc (.cells #[.string x.key, .slice a1 x.ws.length c1] 42) := ⟨_, rfl⟩
  obtain ⟨bl, hbl0⟩ : ∃ bl, bl = w.heap.size := ⟨_, rfl⟩
  have HWA : Hid (Below w.heap.size w wa) := by show Below _ _ _; rw [hwa]; exact blw_alloc (Below.refl _ _) _
  have HLB : Hid (WBox wa bl 42 [.string x.key, .slice a1 x.ws.length c1]) := by show WBox _ _ _ _; rw [hwa, hbl0]; exact WBox.new w [.string x.key, .slice a1 x.ws.length c1] 42 _ rfl
  have HLO : Hid (w0.heap.size ≤ wa.heap.size) := Nat.le_trans hb0.size HWA.out.size
  have HKB : Hid (KB w0.heap.size b w wa) := KB.of hb0.size HWA.out
  have HBW := uh (hbw0.later HWA.out)
  have HNB : Hid (bl ≠ b) := by show _ ≠ _; omega
  clear hb0 hA hbw0 hbl hne hwl
  go_enter Tryd.func31, Tryd.ntmps31
  go_upto_region 1 with fail
  rw [← hwa, ← hbl0]
  clear hwa hbl0
  refine RY.region_lc wa (Below.refl _ _) (VLa b bl x) (VLa_mono _ _ _) ((fun X => BW w0.heap.size b (l ++ x.key.data.toList) X ∧ KB w0.heap.size b w X ∧ w0.heap.size ≤ X.heap.size ∧ WBox X bl 42 [.string x.key, .slice a1 x.ws.length c1])) 5 12 (by kernel_rfl) (by kernel_rfl) (by kernel_rfl) (by kernel_rfl) rfl [2, 4] (by kernel_rfl) (by kernel_rfl) _ rfl rfl (by kernel_rfl) ?_ ?_ ?_
  · intro ii o' ho hii a X hX hk hd
    have zbl := HLB.out.later hX
    have zbll := zbl.own.lt
    match ii, ho with
    | 0, ho =>
      injection ho with ho; subst ho
      have e0 : a.tmps[0]?.getD undef = .pointer (some ⟨b, 0, none⟩) := (RY.ev_tmp a 0).trans ((hk 0 (by kernel_rfl)).trans rfl)
      exact Or.inl ⟨.pointer (some ⟨b, 0, none⟩), X, by simp [execOp, go_sem, e0], Below.refl _ _, rfl⟩
    | 1, ho =>
      injection ho with ho; subst ho
      have e6 : a.tmps[6]?.getD undef = .pointer (some ⟨b, 0, none⟩) := (RY.ev_tmp a 6).trans (hd 0 _ 6 rfl rfl ⟨⟨0, .data⟩, by simp, rfl, rfl⟩ (by decide))
      exact Or.inl ⟨.pointer (some ⟨b, 0, none⟩), X, by simp [execOp, go_sem, e6], Below.refl _ _, rfl⟩
    | 2, ho =>
      injection ho with ho; subst ho
      have e7 : a.tmps[7]?.getD undef = .pointer (some ⟨b, 0, none⟩) := (RY.ev_tmp a 7).trans (hd 1 _ 7 rfl rfl ⟨⟨1, .data⟩, by simp, rfl, rfl⟩ (by decide))
      exact Or.inl ⟨.pointer (some ⟨b, 0, none⟩), X, by simp [execOp, go_sem, e7], Below.refl _ _, rfl⟩
    | 3, ho =>
      injection ho with ho; subst ho
      have e3 : a.tmps[3]?.getD undef = .pointer (some ⟨bl, 0, none⟩) := (RY.ev_tmp a 3).trans ((hk 3 (by kernel_rfl)).trans rfl)
      exact Or.inl ⟨.pointer (some ⟨bl, 0, none⟩), X, by simp [execOp, go_sem, e3], Below.refl _ _, rfl⟩
    | 4, ho =>
      injection ho with ho; subst ho
      have e9 : a.tmps[9]?.getD undef = .pointer (some ⟨bl, 0, none⟩) := (RY.ev_tmp a 9).trans (hd 3 _ 9 rfl rfl ⟨⟨3, .data⟩, by simp, rfl, rfl⟩ (by decide))
      have ycl_ := zbl.get 0 _ rfl
      exact Or.inl ⟨.string x.key, X, by simp [execOp, go_sem, e9, ycl_], Below.refl _ _, rfl⟩
    | n + 5, ho => omega
  · intro a X hX hk hd
    have e8 : a.tmps[8]?.getD undef = .pointer (some ⟨b, 0, none⟩) := (RY.ev_tmp a 8).trans (hd 2 _ 8 rfl rfl ⟨⟨2, .data⟩, by simp, rfl, rfl⟩ (by decide))
    have e10 : a.tmps[10]?.getD undef = .string x.key := (RY.ev_tmp a 10).trans (hd 4 _ 10 rfl rfl ⟨⟨4, .data⟩, by simp, rfl, rfl⟩ (by decide))
    refine ⟨30, #[.pointer (some ⟨b, 0, none⟩), .string x.key], by simp [go_sem, e8, e10], (writeI w0.heap.size b l x.key X (HBW.out.later hX) (Nat.le_trans HLO.out hX.size) (by have := HNE.out; omega) (by have := HSZ.out.1; omega)).mono ?_⟩
    rintro e W' ⟨rfl, hbw, hkb, hlo⟩
    exact ⟨_, rfl, hbw, HKB.out.trans ((KB.of HLO.out hX).trans hkb), hlo, hkb.box _ _ _ (HLB.out.later hX) HNB.out (by decide)⟩
  · intro vs X hK
    simp only [RY.putAll, Act.put, List.setIfInBounds_toArray, List.set_cons_zero, List.set_cons_succ]
    generalize vs 6 = s6
    generalize vs 7 = s7
    generalize vs 8 = s8
    generalize vs 9 = s9
    generalize vs 10 = s10
    generalize vs 11 = s11
    obtain ⟨hbw, hkb, hlo, HLBK⟩ := hK
    have HBW1 := uh hbw
    have HKB1 := uh hkb
    have HLO1 := uh hlo
    clear hbw hkb hlo
    have HLB1 := uh HLBK
    have x1 := HLB1.out.get 1 _ rfl
    have xl1 := HLB1.out.own.lt
    go_wp2_with fail
    go_loopw [15] (fun vi wr => ∃ k : Nat, k ≤ x.ws.length ∧ vi = .int .i64 k ∧ BW w0.heap.size b (l ++ x.key.data.toList ++ Pl.lineW (x.ws.take k)) wr ∧ KB w0.heap.size b w wr ∧ w0.heap.size ≤ wr.heap.size) (fun vi _ => x.ws.length - (intOf vi).toNat)
    case atStart => exact ⟨0, Nat.zero_le _, rfl, by simpa [Pl.lineW] using HBW1.out, HKB1.out, HLO1.out⟩
    case round =>
      obtain ⟨k, hk, rfl, hbw, hkb, hlo⟩ := hrel
      have HBWR := uh hbw
      have HKBR := uh hkb
      have HLOR := uh hlo
      clear hbw hkb hlo x1 xl1
      by_cases hlt : k < x.ws.length
      rotate_left
      · obtain rfl : k = x.ws.length := by omega
        have HE : Hid (BW w0.heap.size b (l ++ Pl.lineT x) wr) := by
          show BW _ _ _ _
          have q := HBWR.out
          rw [List.take_length, List.append_assoc] at q
          exact q
        go_wp2
        go_end0
        exact ⟨rfl, HE.out, HKBR.out, HLOR.out⟩
      have hbel : Below w0.heap.size w0 wr := HB0.out.trans HKBR.out.bel
      rcases txs_open (HA.out.later hbel) with ⟨e0, _⟩ | ⟨p, o, c, hv, hp, hml, hc⟩
      · omega
      injection hv with g1 _ g3
      subst g1; subst g3
      unfold maxLen at hml
      have y1 := hc k hlt
      have hyz : (x.ws.getD k Pl.txNo).size ≤ 1048576 := by
        have e : x.ws.getD k Pl.txNo = x.ws[k] := by simp [hlt]
        have := Pl.sum_mem_le (fun w : ByteArray => w.size + 1) x.ws _ (List.getElem_mem hlt)
        have := HSZ.out.2
        unfold Pl.wln Pl.wtx at this
        rw [e]; omega
      have HN : Hid (Pl.lineW (x.ws.take (k + 1)) = Pl.lineW (x.ws.take k) ++ (32 :: Pl.wordL (x.ws.getD k Pl.txNo).data.toList)) := by
        show _ = _
        rw [Pl.take_snocD Pl.txNo x.ws k hlt]; simp [Pl.lineW]
      have HTS : Hid ((l ++ x.key.data.toList ++ Pl.lineW (x.ws.take k)).length ≤ l.length + 4194304) := by
        show _ ≤ _
        rw [List.length_append, List.length_append, Pl.len_data]
        have h1 := Pl.lineW_len (x.ws.take k)
        have h2 := Pl.sum_take_le (fun w : ByteArray => w.size + 1) x.ws k
        have h3 := HSZ.out.2
        unfold Pl.wtx at h1
        unfold Pl.wln Pl.wtx at h3
        omega
      obtain ⟨y, hy⟩ : ∃ y, y = x.ws.getD k Pl.txNo := ⟨_, rfl⟩
      rw [← hy] at y1 hyz HN
      have hk0 : (0 : Int) ≤ (k : Int) := by omega
      have hkn : (k : Int) < (x.ws.length : Int) := by omega
      have hws : (Pl.wordOut y).size ≤ 3 * 1048576 + 2 := by
        have e : (Pl.wordOut y).size = (Pl.wordL y.data.toList).length := by simp [Pl.wordOut, ByteArray.size]
        have := Pl.wordL_len y.data.toList
        rw [Pl.len_data] at this
        omega
      have hl1 : ¬ (9223372036854775807 < 1 + (Pl.wordOut y).size) := by omega
      have HWS := uh hws
      obtain ⟨z, hz⟩ : ∃ z, ({ data := #[32] } ++ Pl.wordOut y) = z := ⟨_, rfl⟩
      have HZE : Hid (z.data.toList = 32 :: Pl.wordL y.data.toList) := by show _ = _; rw [← hz]; simp [ByteArray.data_append, Pl.wordOut]
      have HZS : Hid (z.size = 1 + (Pl.wordOut y).size) := by show _ = _; rw [← hz, ByteArray.size_append]; rfl
      obtain ⟨LK, hLK⟩ : ∃ LK, LK = l ++ x.key.data.toList ++ Pl.lineW (x.ws.take k) := ⟨_, rfl⟩
      have HLK := uh hLK
      rw [← hLK] at HTS HBWR
      have HWR := uh (fun X (hX : Below wr.heap.size wr X) => writeI w0.heap.size b LK z X (HBWR.out.later hX) (Nat.le_trans HLOR.out hX.size) (by rw [HZS.out]; omega) (by rw [HZS.out]; have := HTS.out; have := HWS.out; omega))
      clear hc hy hbel hws hLK
      go_upto_region 5 with fail
      refine RY.region_lc wr (Below.refl _ _) (VLb b y z) (VLb_mono _ _ _) ((fun X => BW w0.heap.size b (l ++ x.key.data.toList ++ Pl.lineW (x.ws.take (k + 1))) X ∧ KB w0.heap.size b w X ∧ w0.heap.size ≤ X.heap.size)) 6 12 (by kernel_rfl) (by kernel_rfl) (by kernel_rfl) (by kernel_rfl) rfl [2, 5] (by kernel_rfl) (by kernel_rfl) _ rfl rfl (by kernel_rfl) ?_ ?_ ?_
      · intro ii o' ho hii a X hX hk hd
        match ii, ho with
        | 0, ho =>
          injection ho with ho; subst ho
          have e0 : a.tmps[0]?.getD undef = .pointer (some ⟨b, 0, none⟩) := (RY.ev_tmp a 0).trans ((hk 0 (by kernel_rfl)).trans rfl)
          exact Or.inl ⟨.pointer (some ⟨b, 0, none⟩), X, by simp [execOp, go_sem, e0], Below.refl _ _, rfl⟩
        | 1, ho =>
          injection ho with ho; subst ho
          have e19 : a.tmps[19]?.getD undef = .pointer (some ⟨b, 0, none⟩) := (RY.ev_tmp a 19).trans (hd 0 _ 19 rfl rfl ⟨⟨0, .data⟩, by simp, rfl, rfl⟩ (by decide))
          exact Or.inl ⟨.pointer (some ⟨b, 0, none⟩), X, by simp [execOp, go_sem, e19], Below.refl _ _, rfl⟩
        | 2, ho =>
          injection ho with ho; subst ho
          have e20 : a.tmps[20]?.getD undef = .pointer (some ⟨b, 0, none⟩) := (RY.ev_tmp a 20).trans (hd 1 _ 20 rfl rfl ⟨⟨1, .data⟩, by simp, rfl, rfl⟩ (by decide))
          exact Or.inl ⟨.pointer (some ⟨b, 0, none⟩), X, by simp [execOp, go_sem, e20], Below.refl _ _, rfl⟩
        | 3, ho =>
          injection ho with ho; subst ho
          have e5 : a.tmps[5]?.getD undef = .string y := (RY.ev_tmp a 5).trans ((hk 5 (by kernel_rfl)).trans rfl)
          exact Or.inl ⟨.string y, X, by simp [execOp, go_sem, e5], Below.refl _ _, rfl⟩
        | 4, ho =>
          injection ho with ho; subst ho
          have e22 : a.tmps[22]?.getD undef = .string y := (RY.ev_tmp a 22).trans (hd 3 _ 22 rfl rfl ⟨⟨3, .data⟩, by simp, rfl, rfl⟩ (by decide))
          refine Or.inr ⟨53, #[.string y], by simp [go_sem, e22], (sheetWordI y X hyz).mono ?_⟩
          rintro e W' ⟨rfl, hb⟩
          exact ⟨_, rfl, hb, rfl⟩
        | 5, ho =>
          injection ho with ho; subst ho
          have e23 : a.tmps[23]?.getD undef = .string (Pl.wordOut y) := (RY.ev_tmp a 23).trans (hd 4 _ 23 rfl rfl ⟨⟨4, .data⟩, by simp, rfl, rfl⟩ (by decide))
          exact Or.inl ⟨.string z, X, by simp [execOp, go_sem, e23, hl1, hz], Below.refl _ _, rfl⟩
        | n + 6, ho => omega
      · intro a X hX hk hd
        have e21 : a.tmps[21]?.getD undef = .pointer (some ⟨b, 0, none⟩) := (RY.ev_tmp a 21).trans (hd 2 _ 21 rfl rfl ⟨⟨2, .data⟩, by simp, rfl, rfl⟩ (by decide))
        have e24 : a.tmps[24]?.getD undef = .string z := (RY.ev_tmp a 24).trans (hd 5 _ 24 rfl rfl ⟨⟨5, .data⟩, by simp, rfl, rfl⟩ (by decide))
        refine ⟨30, #[.pointer (some ⟨b, 0, none⟩), .string z], by simp [go_sem, e21, e24], (HWR.out X hX).mono ?_⟩
        rintro e W' ⟨rfl, hbw, hkb, hlo⟩
        refine ⟨_, rfl, ?_, HKBR.out.trans ((KB.of HLOR.out hX).trans hkb), hlo⟩
        rw [HN.out]
        rw [HZE.out, HLK.out, List.append_assoc _ (Pl.lineW (List.take k x.ws))] at hbw
        exact hbw
      · intro vs X hK
        simp only [RY.putAll, Act.put, List.setIfInBounds_toArray, List.set_cons_zero, List.set_cons_succ]
        generalize vs 19 = s19
        generalize vs 20 = s20
        generalize vs 21 = s21
        generalize vs 22 = s22
        generalize vs 23 = s23
        generalize vs 24 = s24
        generalize vs 25 = s25
        obtain ⟨hbw, hkb, hlo⟩ := hK
        have HBW2 := uh hbw
        have HKB2 := uh hkb
        have HLO2 := uh hlo
        clear hbw hkb hlo
        clear hz
        go_wp2
        go_roundw
        case rel => exact ⟨k + 1, by omega, by go_num, HBW2.out, HKB2.out, HLO2.out⟩
        case measure => simp [intOf]; omega


namespace Pl
def headT (b : Bl) : List UInt8 := b.kind.data.toList ++ [32] ++ b.name.data.toList ++ [10]
theorem block_head (b : Bl) : blockT b = headT b ++ linesT b.lines ++ [101, 110, 100, 10] := rfl
theorem headT_len (b : Bl) : (headT b).length = b.kind.size + b.name.size + 2 := by
  simp only [headT, List.length_append, len_data, List.length_cons, List.length_nil]; omega
end Pl
set_option maxRecDepth 8000 in
set_option maxHeartbeats 16000000 in
theorem blockI (w0 w : World) (b : Nat) (l : List UInt8) (x : Pl.Bl) (a1 : Option Addr) (c1 : Nat) (hb0 : Below w0.heap.size w0 w) (hA : Raw w0 shLns [lnsD x.lines] [.slice a1 x.lines.length c1]) (hbw0 : BW w0.heap.size b l w) (hbl : b < w.heap.size) (hsz : l.length ≤ 1099311627776) (hwl : Pl.wbl x ≤ 1048576) :
    Calls Tryd.prog 14 #[.pointer (some ⟨b, 0, none⟩), .agg #[.string x.kind, .string x.name, .slice a1 x.lines.length c1]] w fun e w' => e = .returned (.tuple #[]) ∧ BW w0.heap.size b (l ++ Pl.blockT x) w' ∧ KB w0.heap.size b w w' ∧ w0.heap.size ≤ w'.heap.size := by
  have HB0 := uh hb0
  have HA := uh hA
  have HSZ := uh hwl
  have hs1 : ¬ (9223372036854775807 < x.kind.size + 1) := by unfold Pl.wbl at hwl; omega
  obtain ⟨wa, hwa⟩ : ∃ wa, wa = w.alloc (.cells #[.string x.kind, .string x.name, .slice a1 x.lines.length c1] 38) := ⟨_, rfl⟩
  obtain ⟨bl, hbl0⟩ : ∃ bl, bl = w.heap.size := ⟨_, rfl⟩
  have HWA : Hid (Below w.heap.size w wa) := by show Below _ _ _; rw [hwa]; exact blw_alloc (Below.refl _ _) _
  have HLB : Hid (WBox wa bl 38 [.string x.kind, .string x.name, .slice a1 x.lines.length c1]) := by show WBox _ _ _ _; rw [hwa, hbl0]; exact WBox.new w [.string x.kind, .string x.name, .slice a1 x.lines.length c1] 38 _ rfl
  have HLO : Hid (w0.heap.size ≤ wa.heap.size) := Nat.le_trans hb0.size HWA.out.size
  have HKB : Hid (KB w0.heap.size b w wa) := KB.of hb0.size HWA.out
  have HBW := uh (hbw0.later HWA.out)
  have HNB : Hid (bl ≠ b) := by show _ ≠ _; omega
  obtain ⟨z1, hz1⟩ : ∃ z, (x.kind ++ { data := #[32] }) = z := ⟨_, rfl⟩
  obtain ⟨z2, hz2⟩ : ∃ z, (z1 ++ x.name) = z := ⟨_, rfl⟩
  obtain ⟨z3, hz3⟩ : ∃ z, (z2 ++ { data := #[10] }) = z := ⟨_, rfl⟩
  have HHT : Hid (z3.data.toList = Pl.headT x) := by show _ = _; rw [← hz3, ← hz2, ← hz1]; simp [ByteArray.data_append, Pl.headT]
  have e1 : z1.size = x.kind.size + 1 := by rw [← hz1, ByteArray.size_append]; rfl
  have e2 : z2.size = x.kind.size + 1 + x.name.size := by rw [← hz2, ByteArray.size_append, e1]
  have HHS : Hid (z3.size = x.kind.size + x.name.size + 2) := by show _ = _; rw [← hz3, ByteArray.size_append, e2]; show _ + 1 = _; omega
  have HWR := uh (fun X (hX : Below wa.heap.size wa X) => writeI w0.heap.size b l z3 X (HBW.out.later hX) (Nat.le_trans HLO.out hX.size) (by rw [HHS.out]; omega) (by rw [HHS.out]; unfold Pl.wbl at hwl; omega))
  have hs2 : ¬ (9223372036854775807 < z1.size + x.name.size) := by rw [e1]; unfold Pl.wbl at hwl; omega
  have hs3 : ¬ (9223372036854775807 < z2.size + 1) := by rw [e2]; unfold Pl.wbl at hwl; omega
  clear e1 e2
  have HWK : Hid (x.kind.size + x.name.size ≤ 1048576) := by show _ ≤ _; unfold Pl.wbl at hwl; omega
  clear hb0 hA hbw0 hbl hwl
  go_enter Tryd.func14, Tryd.ntmps14
  go_upto_region 1 with fail
  rw [← hwa, ← hbl0]
  clear hwa hbl0
  refine RY.region_lc wa (Below.refl _ _) (VBk b bl x z1 z2 z3) (VBk_mono _ _ _ _ _ _) (fun X => BW w0.heap.size b (l ++ Pl.headT x) X ∧ KB w0.heap.size b w X ∧ w0.heap.size ≤ X.heap.size ∧ WBox X bl 38 [.string x.kind, .string x.name, .slice a1 x.lines.length c1]) 10 12 (by kernel_rfl) (by kernel_rfl) (by kernel_rfl) (by kernel_rfl) rfl [2, 9] (by kernel_rfl) (by kernel_rfl) _ rfl rfl (by kernel_rfl) ?_ ?_ ?_
  · intro ii o' ho hii a X hX hk hd
    have zbl := HLB.out.later hX
    have zbll := zbl.own.lt
    match ii, ho with
    | 0, ho =>
      injection ho with ho; subst ho
      have e0 : a.tmps[0]?.getD undef = .pointer (some ⟨b, 0, none⟩) := (RY.ev_tmp a 0).trans ((hk 0 (by kernel_rfl)).trans rfl)
      exact Or.inl ⟨.pointer (some ⟨b, 0, none⟩), X, by simp [execOp, go_sem, e0], Below.refl _ _, rfl⟩
    | 1, ho =>
      injection ho with ho; subst ho
      have e6 : a.tmps[6]?.getD undef = .pointer (some ⟨b, 0, none⟩) := (RY.ev_tmp a 6).trans (hd 0 _ 6 rfl rfl ⟨⟨0, .data⟩, by simp, rfl, rfl⟩ (by decide))
      exact Or.inl ⟨.pointer (some ⟨b, 0, none⟩), X, by simp [execOp, go_sem, e6], Below.refl _ _, rfl⟩
    | 2, ho =>
      injection ho with ho; subst ho
      have e7 : a.tmps[7]?.getD undef = .pointer (some ⟨b, 0, none⟩) := (RY.ev_tmp a 7).trans (hd 1 _ 7 rfl rfl ⟨⟨1, .data⟩, by simp, rfl, rfl⟩ (by decide))
      exact Or.inl ⟨.pointer (some ⟨b, 0, none⟩), X, by simp [execOp, go_sem, e7], Below.refl _ _, rfl⟩
    | 3, ho =>
      injection ho with ho; subst ho
      have e3 : a.tmps[3]?.getD undef = .pointer (some ⟨bl, 0, none⟩) := (RY.ev_tmp a 3).trans ((hk 3 (by kernel_rfl)).trans rfl)
      exact Or.inl ⟨.pointer (some ⟨bl, 0, none⟩), X, by simp [execOp, go_sem, e3], Below.refl _ _, rfl⟩
    | 4, ho =>
      injection ho with ho; subst ho
      have e9 : a.tmps[9]?.getD undef = .pointer (some ⟨bl, 0, none⟩) := (RY.ev_tmp a 9).trans (hd 3 _ 9 rfl rfl ⟨⟨3, .data⟩, by simp, rfl, rfl⟩ (by decide))
      have ycl_ := zbl.get 0 _ rfl
      exact Or.inl ⟨.string x.kind, X, by simp [execOp, go_sem, e9, ycl_], Below.refl _ _, rfl⟩
    | 5, ho =>
      injection ho with ho; subst ho
      have e10 : a.tmps[10]?.getD undef = .string x.kind := (RY.ev_tmp a 10).trans (hd 4 _ 10 rfl rfl ⟨⟨4, .data⟩, by simp, rfl, rfl⟩ (by decide))
      exact Or.inl ⟨.string z1, X, by simp [execOp, go_sem, e10, hs1, hz1], Below.refl _ _, rfl⟩
    | 6, ho =>
      injection ho with ho; subst ho
      have e3 : a.tmps[3]?.getD undef = .pointer (some ⟨bl, 0, none⟩) := (RY.ev_tmp a 3).trans ((hk 3 (by kernel_rfl)).trans rfl)
      exact Or.inl ⟨.pointer (some ⟨bl, 1, none⟩), X, by simp [execOp, go_sem, e3], Below.refl _ _, rfl⟩
    | 7, ho =>
      injection ho with ho; subst ho
      have e12 : a.tmps[12]?.getD undef = .pointer (some ⟨bl, 1, none⟩) := (RY.ev_tmp a 12).trans (hd 6 _ 12 rfl rfl ⟨⟨6, .data⟩, by simp, rfl, rfl⟩ (by decide))
      have ycl_ := zbl.get 1 _ rfl
      exact Or.inl ⟨.string x.name, X, by simp [execOp, go_sem, e12, ycl_], Below.refl _ _, rfl⟩
    | 8, ho =>
      injection ho with ho; subst ho
      have e11 : a.tmps[11]?.getD undef = .string z1 := (RY.ev_tmp a 11).trans (hd 5 _ 11 rfl rfl ⟨⟨5, .data⟩, by simp, rfl, rfl⟩ (by decide))
      have e13 : a.tmps[13]?.getD undef = .string x.name := (RY.ev_tmp a 13).trans (hd 7 _ 13 rfl rfl ⟨⟨7, .data⟩, by simp, rfl, rfl⟩ (by decide))
      exact Or.inl ⟨.string z2, X, by simp [execOp, go_sem, e11, e13, hs2, hz2], Below.refl _ _, rfl⟩
    | 9, ho =>
      injection ho with ho; subst ho
      have e14 : a.tmps[14]?.getD undef = .string z2 := (RY.ev_tmp a 14).trans (hd 8 _ 14 rfl rfl ⟨⟨8, .data⟩, by simp, rfl, rfl⟩ (by decide))
      exact Or.inl ⟨.string z3, X, by simp [execOp, go_sem, e14, hs3, hz3], Below.refl _ _, rfl⟩
    | n + 10, ho => omega
  · intro a X hX hk hd
    have e8 : a.tmps[8]?.getD undef = .pointer (some ⟨b, 0, none⟩) := (RY.ev_tmp a 8).trans (hd 2 _ 8 rfl rfl ⟨⟨2, .data⟩, by simp, rfl, rfl⟩ (by decide))
    have e15 : a.tmps[15]?.getD undef = .string z3 := (RY.ev_tmp a 15).trans (hd 9 _ 15 rfl rfl ⟨⟨9, .data⟩, by simp, rfl, rfl⟩ (by decide))
    refine ⟨30, #[.pointer (some ⟨b, 0, none⟩), .string z3], by simp [go_sem, e8, e15], (HWR.out X hX).mono ?_⟩
    rintro e W' ⟨rfl, hbw, hkb, hlo⟩
    rw [HHT.out] at hbw
    exact ⟨_, rfl, hbw, HKB.out.trans ((KB.of HLO.out hX).trans hkb), hlo, hkb.box _ _ _ (HLB.out.later hX) HNB.out (by decide)⟩
  · intro vs X hK
    simp only [RY.putAll, Act.put, List.setIfInBounds_toArray, List.set_cons_zero, List.set_cons_succ]
    generalize vs 6 = s6
    generalize vs 7 = s7
    generalize vs 8 = s8
    generalize vs 9 = s9
    generalize vs 10 = s10
    generalize vs 11 = s11
    generalize vs 12 = s12
    generalize vs 13 = s13
    generalize vs 14 = s14
    generalize vs 15 = s15
    generalize vs 16 = s16
    obtain ⟨hbw, hkb, hlo, HLBK⟩ := hK
    have HBW1 := uh hbw
    have HKB1 := uh hkb
    have HLO1 := uh hlo
    have HLB1 := uh HLBK
    clear hbw hkb hlo HLBK hs1 hs2 hs3 hz1 hz2 hz3
    have x2 := HLB1.out.get 2 _ rfl
    have xl2 := HLB1.out.own.lt
    go_wp2_with fail
    go_loopw [20] (fun vi wr => ∃ k : Nat, k ≤ x.lines.length ∧ vi = .int .i64 k ∧ BW w0.heap.size b (l ++ Pl.headT x ++ Pl.linesT (x.lines.take k)) wr ∧ KB w0.heap.size b w wr ∧ w0.heap.size ≤ wr.heap.size) (fun vi _ => x.lines.length - (intOf vi).toNat)
    case atStart => exact ⟨0, Nat.zero_le _, rfl, by simpa [Pl.linesT] using HBW1.out, HKB1.out, HLO1.out⟩
    case round =>
      obtain ⟨k, hk, rfl, hbw, hkb, hlo⟩ := hrel
      have HBWR := uh hbw
      have HKBR := uh hkb
      have HLOR := uh hlo
      clear hbw hkb hlo x2 xl2
      have HTS : Hid ((l ++ Pl.headT x ++ Pl.linesT (x.lines.take k)).length ≤ l.length + 16777216) := by
        show _ ≤ _
        have h1 := Pl.linesT_len (x.lines.take k)
        have h2 := Pl.sum_take_le (fun x : Pl.Ln => Pl.wln x + 1) x.lines k
        have h3 := HSZ.out
        unfold Pl.wbl at h3
        rw [List.length_append, List.length_append, Pl.headT_len]
        omega
      by_cases hlt : k < x.lines.length
      rotate_left
      · obtain rfl : k = x.lines.length := by omega
        have HWE := uh (fun X (h1 : BW w0.heap.size b (l ++ Pl.headT x ++ Pl.linesT (x.lines.take x.lines.length)) X) (h2 : w0.heap.size ≤ X.heap.size) => writeI w0.heap.size b _ { data := #[101, 110, 100, 10] } X h1 h2 (by show _ + 4 ≠ 0; omega) (by show _ + 4 ≤ _; have := HTS.out; omega))
        go_wp2_with (go_at_call 30; refine (HWE.out _ HBWR.out HLOR.out).mono ?_; rintro e w9 ⟨rfl, hbw9, hkb9, hlo9⟩)
        go_end0
        refine ⟨rfl, ?_, HKBR.out.trans hkb9, hlo9⟩
        rw [List.take_length] at hbw9
        have e : l ++ Pl.blockT x = l ++ Pl.headT x ++ Pl.linesT x.lines ++ ({ data := #[101, 110, 100, 10] } : ByteArray).data.toList := by rw [Pl.block_head]; simp
        rw [e]; exact hbw9
      have hbel : Below w0.heap.size w0 wr := HB0.out.trans HKBR.out.bel
      rcases lns_open (HA.out.later hbel) with ⟨e0, _⟩ | ⟨p, o, c, hv, hp, hml, hopen⟩
      · omega
      injection hv with g1 _ g3
      subst g1; subst g3
      unfold maxLen at hml
      obtain ⟨ay, cy, hg, hry⟩ := hopen k hlt
      obtain ⟨y, hy⟩ : ∃ y, y = x.lines.getD k Pl.lnNo := ⟨_, rfl⟩
      have HN : Hid (Pl.linesT (x.lines.take (k + 1)) = Pl.linesT (x.lines.take k) ++ [32, 32] ++ Pl.lineT y ++ [10]) := by
        show _ = _
        rw [Pl.take_snocD Pl.lnNo x.lines k hlt, ← hy]; simp [Pl.linesT]
      have HWY : Hid (Pl.wln y ≤ 1048576) := by
        show _ ≤ _
        have e : x.lines.getD k Pl.lnNo = x.lines[k] := by simp [hlt]
        have := Pl.sum_mem_le (fun x : Pl.Ln => Pl.wln x + 1) x.lines _ (List.getElem_mem hlt)
        have h3 := HSZ.out
        unfold Pl.wbl at h3
        rw [hy, e]; omega
      rw [← hy] at hg hry
      obtain ⟨LK, hLK⟩ : ∃ LK, LK = l ++ Pl.headT x ++ Pl.linesT (x.lines.take k) := ⟨_, rfl⟩
      have HLK := uh hLK
      rw [← hLK] at HBWR HTS
      have HRY : Hid (Raw w0 shTxs [.row y.ws.length (txD y.ws)] [.slice ay y.ws.length cy]) := by
        rcases lns_open HA.out with ⟨e0, _⟩ | ⟨p', o', c', hv', hp', _, hopen'⟩
        · omega
        injection hv' with g1' _ _
        injection g1' with g1'
        injection g1' with e1 e2 _
        subst e1; subst e2
        obtain ⟨ay', cy', hg', hry'⟩ := hopen' k hlt
        rw [← hy] at hg' hry'
        have q1 := rA_get (rA_later hg' hp' hbel) 1 _ rfl
        have q2 := rA_get hg 1 _ rfl
        rw [q1] at q2
        injection q2 with q2
        rw [← q2]
        exact hry'
      have y0 : wr.cell? ⟨p, o + k * 2, none⟩ = some (.string y.key) := rA_get hg 0 _ rfl
      have y1 : wr.cell? ⟨p, o + k * 2 + 1, none⟩ = some (.slice ay y.ws.length cy) := rA_get hg 1 _ rfl
      have hk0 : (0 : Int) ≤ (k : Int) := by omega
      have hkn : (k : Int) < (x.lines.length : Int) := by omega
      have HLL : Hid ((Pl.lineT y).length ≤ 3 * 1048576) := Nat.le_trans (Pl.lineT_len y) (by have := HWY.out; omega)
      clear hopen hg hry hy hbel hLK
      obtain ⟨wy, hwy⟩ : ∃ wy, wy = wr.alloc (.cells #[.string y.key, .slice ay y.ws.length cy] 42) := ⟨_, rfl⟩
      obtain ⟨by_, hby⟩ : ∃ by_, by_ = wr.heap.size := ⟨_, rfl⟩
      have HWY2 : Hid (Below wr.heap.size wr wy) := by show Below _ _ _; rw [hwy]; exact blw_alloc (Below.refl _ _) _
      have HYB : Hid (WBox wy by_ 42 [.string y.key, .slice ay y.ws.length cy]) := by show WBox _ _ _ _; rw [hwy, hby]; exact WBox.new wr [.string y.key, .slice ay y.ws.length cy] 42 _ rfl
      have HNY : Hid (by_ ≠ b) := by
        show _ ≠ _
        obtain ⟨_, p2, v2, _, q2, _⟩ := HBWR.out
        have := q2.own.lt
        omega
      go_upto_region 5 with fail
      rw [← hwy, ← hby]
      clear hwy hby y0 y1
      have HLY : Hid (w0.heap.size ≤ wy.heap.size) := Nat.le_trans HLOR.out HWY2.out.size
      have HW1 := uh (writeI w0.heap.size b LK { data := #[32, 32] } wy (HBWR.out.later HWY2.out) HLY.out (by show _ + 2 ≠ 0; omega) (by show _ + 2 ≤ _; have := HTS.out; omega))
      go_wp2_with fail
      refine HW1.out.mono ?_
      rintro e w5 ⟨rfl, hbw5, hkb5, hlo5⟩
      have HYB5 := uh (hkb5.box _ _ _ HYB.out HNY.out (by decide))
      have HK5 : Hid (KB w0.heap.size b w w5) := (HKBR.out.trans (KB.of HLOR.out HWY2.out)).trans hkb5
      have z0 := HYB5.out.get 0 _ rfl
      have z1 := HYB5.out.get 1 _ rfl
      have zl := HYB5.out.own.lt
      have HW2 := uh (lineI w0 w5 b (LK ++ ({ data := #[32, 32] } : ByteArray).data.toList) y ay cy (HB0.out.trans HK5.out.bel) HRY.out hbw5 (by obtain ⟨_, p2, v2, _, q2, _⟩ := hbw5; exact q2.own.lt) (by rw [List.length_append]; show _ + 2 ≠ 0; omega) (by rw [List.length_append]; show _ + 2 ≤ _; have := HTS.out; omega) HWY.out)
      clear hbw5 hkb5 HW1
      go_wp2_with fail
      refine HW2.out.mono ?_
      rintro e w6 ⟨rfl, hbw6, hkb6, hlo6⟩
      have HW3 := uh (writeI w0.heap.size b _ { data := #[10] } w6 hbw6 hlo6 (by show _ + 1 ≠ 0; omega) (by rw [List.length_append, List.length_append]; show _ + 2 + _ + 1 ≤ _; have := HTS.out; have := HLL.out; omega))
      have HK6 := uh (HK5.out.trans hkb6)
      clear hbw6 hkb6 HW2 z0 z1 zl
      go_wp2_with fail
      refine HW3.out.mono ?_
      rintro e w7 ⟨rfl, hbw7, hkb7, hlo7⟩
      have HB7 : Hid (BW w0.heap.size b (l ++ Pl.headT x ++ Pl.linesT (x.lines.take (k + 1))) w7) := by
        show BW _ _ _ _
        have e : l ++ Pl.headT x ++ Pl.linesT (x.lines.take (k + 1)) = LK ++ ({ data := #[32, 32] } : ByteArray).data.toList ++ Pl.lineT y ++ ({ data := #[10] } : ByteArray).data.toList := by rw [HN.out, HLK.out]; simp
        rw [e]; exact hbw7
      have HK7 := uh (HK6.out.trans hkb7)
      clear hbw7 hkb7 HW3
      go_wp2
      go_roundw
      case rel => exact ⟨k + 1, by omega, by go_num, HB7.out, HK7.out, hlo7⟩
      case measure => simp [intOf]; omega


end Go.Proofs.YteemfpocmmainaaDoor
