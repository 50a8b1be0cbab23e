/-
  The reader of sheets: faults, ends, counts, the next line: the program.
-/
import Derived.Lib.Bytealg
import Derived.Lib.IndexLaws
import Derived.Test.YtdllbcafbfkngaaGreatDoorESs
import Derived.Test.YtdllbcafbfkngaaGreatDoorEKc
import Derived.Test.YtdllbcafbfkngaaGreatDoorUC
import Derived.Test.YtdllbcafbfkngaaGreatDoorEIs
import Derived.Test.YtdllbcafbfkngaaGreatDoorEIg
import Derived.Test.YtdllbcafbfkngaaGreatDoorRgSt
import Derived.Test.YtdllbcafbfkngaaGreatDoorRgMk
namespace Go.Proofs.YtdllbcafbfkngaaGreatDoor
open Go.RowKit Go.Deep

theorem Tryz.uinfoT1 : (Tryz.prog.info? 9).map (fun i => (i.zero, i.size, decide (i.bytes ≤ 4096))) = some (some (.string ByteArray.empty), 1, true) := by kernel_rfl
theorem Tryz.uunderT1 : Tryz.prog.underlying 33 = some (.slice 9) := by kernel_rfl
theorem umakeT1 (n : Nat) (h : n ≤ 1048576) : ∃ cs : Array Value, cs.size = n * 1 ∧ ∀ W : World,
    (Instr.makeSlice 33 (.int .i64 (n : Int)) (.int .i64 (n : Int))).run Tryz.prog W = .ok (.slice (some ⟨W.heap.size, 0, none⟩) n n) (W.alloc (.cells cs 9)) := by
  obtain ⟨i, hi, hzz⟩ := Option.map_eq_some_iff.1 Tryz.uinfoT1
  simp only [Prod.mk.injEq, decide_eq_true_eq] at hzz
  obtain ⟨hz, hs, hb⟩ := hzz
  refine ⟨madeCells ((.string ByteArray.empty) : Value).cells (n * 1), size_madeCells _ _, fun W => ?_⟩
  have hmx : (i.bytes : Int) * (n : Int) ≤ 281474976710656 := by
    have e : ((i.bytes * n : Nat) : Int) ≤ ((4096 * 1048576 : Nat) : Int) := Int.ofNat_le.2 (Nat.mul_le_mul hb h)
    rw [Int.natCast_mul] at e
    exact Int.le_trans e (by decide)
  have hr := run_make (P := Tryz.prog) W 33 9 i _ Tryz.uunderT1 hi hz .i64 .i64 n n (by omega) (Int.le_refl _) hmx (by omega)
  simp only [Int.toNat_natCast, hs] at hr
  exact hr
end Go.Proofs.YtdllbcafbfkngaaGreatDoor

namespace Go.Proofs.YtdllbcafbfkngaaGreatDoor
open Go.RowKit Go.Deep

namespace Pl
def spA (acc : List UInt8) : List UInt8 → List (List UInt8)
  | [] => [acc]
  | c :: l => if c.toNat = 10 then acc :: spA [] l else spA (acc ++ [c]) l
def spS (s : ByteArray) : List ByteArray := (spA [] s.data.toList).map fun x => ⟨x.toArray⟩
theorem nl_iff (c : UInt8) : (c == (10 : UInt8)) = decide (c.toNat = 10) := by
  rw [Bool.eq_iff_iff, beq_iff_eq, decide_eq_true_iff]
  exact ⟨fun h => by rw [h]; rfl, fun h => UInt8.toNat_inj.1 h⟩
theorem spA_none : ∀ (l acc : List UInt8), Lib.indexByte l 10 = -1 → spA acc l = [acc ++ l]
  | [], acc, _ => by simp [spA]
  | c :: l, acc, h => by
    unfold Lib.indexByte at h
    rw [nl_iff] at h
    by_cases hc : c.toNat = 10
    · rw [decide_eq_true hc] at h; simp at h
    · rw [decide_eq_false hc] at h
      simp only [Bool.false_eq_true, if_false] at h
      have h' : Lib.indexByte l 10 = -1 := by
        have := Lib.indexByte_ge l 10
        split at h
        · rename_i e; exact beq_iff_eq.1 e
        · omega
      rw [spA, if_neg hc, spA_none l _ h']; simp
theorem spA_some : ∀ (l acc : List UInt8) (m : Nat), Lib.indexByte l 10 = (m : Nat) → m < l.length ∧ spA acc l = (acc ++ l.take m) :: spA [] (l.drop (m + 1)) ∧ l.count 10 = (l.drop (m + 1)).count 10 + 1
  | [], _, m, h => by simp only [Lib.indexByte] at h; omega
  | c :: l, acc, m, h => by
    unfold Lib.indexByte at h
    rw [nl_iff] at h
    by_cases hc : c.toNat = 10
    · rw [decide_eq_true hc] at h
      simp only [if_true] at h
      have hm : m = 0 := by omega
      subst hm
      have e : c = 10 := UInt8.toNat_inj.1 hc
      refine ⟨by simp, ?_, ?_⟩
      · rw [spA, if_pos hc]; simp
      · rw [e]; simp
    · rw [decide_eq_false hc] at h
      simp only [Bool.false_eq_true, if_false] at h
      split at h
      · omega
      · rename_i hne
        obtain ⟨k, rfl⟩ : ∃ k, m = k + 1 := ⟨m - 1, by
          have := Lib.indexByte_ge l 10
          have h3 : Lib.indexByte l 10 ≠ -1 := fun e => hne (by rw [e]; rfl)
          omega⟩
        obtain ⟨h1, h2, h3⟩ := spA_some l (acc ++ [c]) k (by omega)
        have hcc : (c == (10 : UInt8)) = false := by rw [nl_iff, decide_eq_false hc]
        refine ⟨by simp; omega, ?_, ?_⟩
        · rw [spA, if_neg hc, h2]; simp
        · rw [List.count_cons, hcc, h3]; simp
theorem spA_len : ∀ (l acc : List UInt8), (spA acc l).length = l.count 10 + 1
  | [], _ => rfl
  | c :: l, acc => by
    unfold spA
    rw [List.count_cons, nl_iff]
    by_cases hc : c.toNat = 10
    · rw [if_pos hc, decide_eq_true hc, List.length_cons, spA_len l]; simp
    · rw [if_neg hc, decide_eq_false hc, spA_len l]; simp
theorem spS_len (s : ByteArray) : (spS s).length = s.data.toList.count 10 + 1 := by rw [spS, List.length_map, spA_len]
theorem ix_pos : ∀ l : List UInt8, 0 < l.count 10 → ∃ m : Nat, Lib.indexByte l 10 = (m : Nat) := fun l h => by
  have := Lib.indexByte_ge l 10
  by_cases e : Lib.indexByte l 10 = -1
  · have h2 := spA_none l [] e
    have h3 := spA_len l []
    rw [h2] at h3
    simp at h3; omega
  · exact ⟨(Lib.indexByte l 10).toNat, by omega⟩
end Pl

set_option maxRecDepth 100000 in
set_option maxHeartbeats 4000000 in
theorem indexByteN (s : ByteArray) (c : UInt8) (w : World) :
    Calls Tryz.prog 112 #[.string s, .int .u8 c.toNat] w fun e w' => e = .returned (.int .i64 (Lib.indexByte s.data.toList c)) ∧ w = w' := by
  have hc : ((c.toNat : Int)).toNat.toUInt8 = c := by simp
  have HE := uh hc
  clear hc
  go_enter Tryz.func112, Tryz.ntmps112
  go_wp2
  rw [run_callFunc_extern Tryz.func124 (by kernel_rfl) (by kernel_rfl) (by kernel_rfl) (e := Extern.BytealgIndexByte.indexByte) (by kernel_rfl), Lib.run_indexByteString]
  simp only [Result.andThen]
  rw [Oper.upon_value]
  rw [HE.out]
  go_wp2
  go_ret
  exact ⟨rfl, rfl⟩
set_option maxRecDepth 100000 in
set_option maxHeartbeats 4000000 in
theorem indexNl (s : ByteArray) (w : World) :
    Calls Tryz.prog 81 #[.string s, .string { data := #[10] }] w fun e w' => e = .returned (.int .i64 (Lib.indexByte s.data.toList 10)) ∧ w = w' := by
  obtain ⟨R, hR⟩ : ∃ R, R = Lib.indexByte s.data.toList 10 := ⟨_, rfl⟩
  have HC0 := uh (indexByteN s 10 w)
  rw [← hR] at HC0
  have HC : Hid (Calls Tryz.prog 112 #[.string s, .int .u8 10] w fun e w' => e = .returned (.int .i64 R) ∧ w = w') := HC0.out
  have HR := uh hR
  rw [← hR]
  clear hR HC0
  go_enter Tryz.func81, Tryz.ntmps81
  cases hq : ([10] == s.toList)
  · go_wp2_with (first | (go_at_call 101; go_in) | (go_at_call 112; refine HC.out.mono ?_; rintro e w' ⟨rfl, rfl⟩))
    go_ret
    exact ⟨rfl, rfl⟩
  · have HE : Hid (R = 0) := by
      show R = 0
      have e := beq_iff_eq.1 hq
      rw [HR.out, ← Pl.tl, ← e]; rfl
    go_wp2_with (first | (go_at_call 101; go_in) | (go_at_call 112; refine HC.out.mono ?_; rintro e w' ⟨rfl, rfl⟩))
    go_ret
    exact ⟨Pl.ret_int HE.out.symm, rfl⟩
set_option maxRecDepth 100000 in
set_option maxHeartbeats 4000000 in
theorem countNl (s : ByteArray) (w : World) :
    Calls Tryz.prog 80 #[.string s, .string { data := #[10] }] w fun e w' => e = .returned (.int .i64 (s.data.toList.count 10 : Nat)) ∧ w = w' := by
  have HE : Hid ((((({ data := #[10] } : ByteArray)[0]'(by decide)).toNat : Int)).toNat.toUInt8 = 10) := rfl
  go_enter Tryz.func80, Tryz.ntmps80
  go_wp2
  rw [run_callFunc_extern Tryz.func100 (by kernel_rfl) (by kernel_rfl) (by kernel_rfl) (e := Extern.BytealgCount.count) (by kernel_rfl), Lib.run_countString]
  simp only [Result.andThen]
  rw [Oper.upon_value]
  rw [HE.out]
  go_wp2
  go_ret
  exact ⟨rfl, rfl⟩

set_option maxRecDepth 8000 in
set_option maxHeartbeats 8000000 in
theorem genSplitI (s : ByteArray) (w : World) (hs : s.size ≤ 1048000) :
    Calls Tryz.prog 64 #[.string s, .string { data := #[10] }, .int .i64 0, .int .i64 (-1)] w fun e w' => ∃ g, e = .returned (.slice (some ⟨g, 0, none⟩) (Pl.spS s).length (Pl.spS s).length) ∧ w.heap.size ≤ g ∧ WBox w' g 9 ((Pl.spS s).map .string) ∧ Below w.heap.size w w' := by
  obtain ⟨n, hn⟩ : ∃ n, n = s.data.toList.count 10 := ⟨_, rfl⟩
  have hln : (Pl.spS s).length = n + 1 := by rw [Pl.spS_len, hn]
  have hns : n ≤ s.size := by rw [hn, ← Pl.len_data]; exact List.count_le_length
  have HC := uh (countNl s w)
  rw [← hn] at HC
  have HN := uh hn
  have HLN := uh hln
  rw [hln]
  clear hln hn
  obtain ⟨zs, hzs, hmk⟩ := umakeT1 (n + 1) (by omega)
  have hmin : min ((n : Int) + 1) ((s.size : Int) + 1) = ((n + 1 : Nat) : Int) := by omega
  have hmk' := hmk w
  go_enter Tryz.func64, Tryz.ntmps64
  go_upto_region 8 with (go_at_call 80; refine HC.out.mono ?_; rintro e w' ⟨rfl, rfl⟩)
  have HB : Hid (Below w.heap.size w (w.alloc (.cells zs 9))) := blw_alloc (Below.refl _ _) _
  obtain ⟨g, hg⟩ : ∃ g, g = w.heap.size := ⟨_, rfl⟩
  have HZ : Hid (w.heap.size ≤ g) := by show _ ≤ _; omega
  have HBX : Hid (WBox (w.alloc (.cells zs 9)) g 9 zs.toList) := by
    show WBox _ _ _ _
    have q := WBox.new w zs.toList 9 g hg
    simpa using q
  have HZL : Hid (zs.toList.length = n + 1) := by show _ = _; rw [Array.length_toList, hzs, Nat.mul_one]
  obtain ⟨wa, hwa⟩ : ∃ wa, wa = w.alloc (.cells zs 9) := ⟨_, rfl⟩
  rw [← hwa] at hmk' HB HBX
  rw [← hg, show ((n + 1 : Nat) : Int) = (n : Int) + 1 by omega] at hmk'
  go_upto_region 11 with fail
  rw [← hwa, ← hg]
  clear hmk' hmk hmin
  clear hwa hg
  go_loopw [0, 10] (fun v0 v10 wr => ∃ (i : Nat) (r : ByteArray) (cs : List Value), v0 = .string r ∧ v10 = .int .i64 i ∧ i ≤ n ∧ r.size ≤ s.size ∧ r.data.toList.count 10 + i = n ∧ cs.length = n + 1 ∧ WBox wr g 9 cs ∧ (∃ done : List ByteArray, done.length = i ∧ cs.take i = done.map .string ∧ Pl.spS s = done ++ Pl.spS r) ∧ Below w.heap.size w wr) (fun _ i _ => n - (intOf i).toNat)
  case atStart => exact ⟨0, s, zs.toList, rfl, rfl, Nat.zero_le _, Nat.le_refl _, HN.out.symm, HZL.out, HBX.out, ⟨[], rfl, rfl, rfl⟩, HB.out⟩
  case round =>
    obtain ⟨i, r, cs, rfl, rfl, hi, hr, hcn, hcl, hbx, ⟨done, hd, htk, hsp⟩, hW⟩ := hrel
    have HBXR := uh hbx
    have HW := uh hW
    have HD := uh (And.intro hd (And.intro htk hsp))
    have HCN := uh hcn
    have HCL := uh hcl
    have hlt : i < cs.length := by omega
    obtain ⟨y, hy⟩ : ∃ y, cs[i]? = some y := ⟨cs[i], by simp [hlt]⟩
    have hcell := hbx.get i y hy
    have hgl := hbx.own.lt
    have hfz := hbx.own.frozen i
    have hwi : IntKind.i64.wrap ((i : Int) + 1) = (i : Int) + 1 := by simp [IntKind.wrap, IntKind.bits, IntKind.signed]; omega
    clear hbx hW hd htk hsp hcn hcl
    by_cases hin : i < n
    · obtain ⟨m, hm⟩ := Pl.ix_pos r.data.toList (by have := HCN.out; omega)
      obtain ⟨hml, hsa, hct⟩ := Pl.spA_some r.data.toList [] m hm
      have HIX := uh (fun W => indexNl r W)
      rw [hm] at HIX
      rw [Pl.len_data] at hml
      have HSA : Hid (Pl.spS r = r.extract 0 m :: Pl.spS (r.extract (m + 1) r.size)) := by
        show _ = _
        unfold Pl.spS
        rw [hsa, List.map_cons, List.nil_append]
        congr 1
        · rw [← Pl.back (r.extract 0 m), Pl.ext_list]; simp
        · rw [Pl.ext_list]
          congr 2
          rw [List.take_of_length_le (by rw [List.length_drop, Pl.len_data]; omega)]
      have HCT : Hid ((r.extract (m + 1) r.size).data.toList.count 10 + (i + 1) = n) := by
        show _ = _
        rw [Pl.ext_list, List.take_of_length_le (by rw [List.length_drop, Pl.len_data]; omega)]
        have := HCN.out; omega
      have hm0 : (0 : Int) ≤ (m : Int) := by omega
      have hm1 : (m : Int) ≤ (r.size : Int) := by omega
      have hm2 : (m : Int) + 1 ≤ (r.size : Int) := by omega
      have hm3 : ¬ ((m : Int) < 0) := by omega
      have hm4 : (0 : Int) ≤ (m : Int) + 1 := by omega
      have hi0 : (0 : Int) ≤ (i : Int) := by omega
      have hi1 : (i : Int) < ((n + 1 : Nat) : Int) := by omega
      have hrs : r.size ≤ 1048000 := by omega
      clear hm hsa hct
      go_wp2_with (go_at_call 81; refine (HIX.out _).mono ?_; rintro e w' ⟨rfl, rfl⟩)
      go_roundw
      case rel =>
        refine ⟨i + 1, r.extract (m + 1) r.size, cs.set i (.string (r.extract 0 m)), rfl, by go_num, by omega, ?_, HCT.out, ?_, HBXR.out.set i _ hlt, ⟨done ++ [r.extract 0 m], ?_, ?_, ?_⟩, ?_⟩
        · rw [ByteArray.size_extract]; omega
        · rw [List.length_set]; exact HCL.out
        · rw [List.length_append, HD.out.1]; rfl
        · have q : (cs.set i (.string (r.extract 0 m))).take (i + 1) = cs.take i ++ [.string (r.extract 0 m)] := by
            rw [List.take_succ_eq_append_getElem (by rw [List.length_set]; exact hlt), List.take_set_of_le (Nat.le_refl _), List.getElem_set_self]
          rw [q, HD.out.2.1, List.map_append]; rfl
        · rw [HD.out.2.2, HSA.out, List.append_assoc]; rfl
        · exact HW.out.setCell (p := ⟨g, i, none⟩) HZ.out _
      case measure => simp [intOf]; omega
    · have hin2 : i = n := by omega
      subst hin2
      have hix : Lib.indexByte r.data.toList 10 = -1 := by
        have h0 : r.data.toList.count 10 = 0 := by have := HCN.out; omega
        by_cases q : Lib.indexByte r.data.toList 10 = -1
        · exact q
        · have := Lib.indexByte_ge r.data.toList 10
          obtain ⟨_, _, h3⟩ := Pl.spA_some r.data.toList [] (Lib.indexByte r.data.toList 10).toNat (by omega)
          omega
      have HSA : Hid (Pl.spS r = [r]) := by
        show _ = _
        unfold Pl.spS
        rw [Pl.spA_none _ _ hix, List.nil_append, List.map_cons, List.map_nil, Pl.back]
      have hi0 : (0 : Int) ≤ (i : Int) := by omega
      have hi1 : (i : Int) < ((i + 1 : Nat) : Int) := by omega
      have HF : Hid (WBox (wr.setCell ⟨g, i, none⟩ (.string r)) g 9 ((Pl.spS s).map .string)) := by
        show WBox _ _ _ _
        have q := HBXR.out.set i (.string r) hlt
        have e : cs.set i (.string r) = (Pl.spS s).map .string := by
          rw [HD.out.2.2, HSA.out, List.map_append, ← HD.out.2.1]
          apply List.ext_getElem?
          intro j
          rw [List.getElem?_set]
          have hcl := HCL.out
          have htl : (cs.take i).length = i := by rw [List.length_take]; omega
          by_cases hj : i = j
          · subst hj
            rw [if_pos rfl, if_pos hlt, List.getElem?_append_right (by omega), htl, Nat.sub_self]; rfl
          · rw [if_neg hj]
            by_cases hj2 : j < i
            · rw [List.getElem?_append_left (by omega), List.getElem?_take, if_pos hj2]
            · rw [List.getElem?_append_right (by omega), htl, List.getElem?_eq_none (by omega)]
              rw [List.getElem?_eq_none (by simp; omega)]
        rw [← e]; exact q
      clear hix
      go_wp2
      go_ret
      exact ⟨g, rfl, HZ.out, HF.out, HW.out.setCell (p := ⟨g, i, none⟩) HZ.out _⟩

set_option maxHeartbeats 2000000 in
theorem splitI (s : ByteArray) (w : World) (hs : s.size ≤ 1048000) :
    Calls Tryz.prog 51 #[.string s, .string { data := #[10] }] w fun e w' => ∃ g, e = .returned (.slice (some ⟨g, 0, none⟩) (Pl.spS s).length (Pl.spS s).length) ∧ w.heap.size ≤ g ∧ WBox w' g 9 ((Pl.spS s).map .string) ∧ Below w.heap.size w w' := by
  have HC := uh (genSplitI s w hs)
  go_enter Tryz.func51, Tryz.ntmps51
  go_wp2_with (go_at_call 64; refine HC.out.mono ?_; rintro e w' ⟨g, rfl, h1, h2, h3⟩)
  go_ret
  exact ⟨g, rfl, h1, h2, h3⟩

namespace Pl
theorem spA_ne : ∀ (l acc : List UInt8), spA acc l ≠ []
  | [], _ => by simp [spA]
  | c :: l, acc => by
    unfold spA
    split
    · simp
    · exact spA_ne l _
/-- A text's lines are its pieces, but for a last one that is empty. -/
theorem lin_sp : ∀ (l acc : List UInt8), linA acc l = if ((spA acc l).getLast (spA_ne l acc)).isEmpty then (spA acc l).dropLast else spA acc l
  | [], acc => by
    simp only [linA, spA, List.getLast_singleton, List.dropLast_singleton]
  | c :: l, acc => by
    by_cases hc : c.toNat = 10
    · have e : spA acc (c :: l) = acc :: spA [] l := by rw [spA, if_pos hc]
      have ih := lin_sp l []
      have hne := spA_ne l []
      rw [linA, if_pos hc, ih]
      simp only [e]
      rw [List.getLast_cons hne, List.dropLast_cons_of_ne_nil hne]
      split <;> rfl
    · have e : spA acc (c :: l) = spA (acc ++ [c]) l := by rw [spA, if_neg hc]
      rw [linA, if_neg hc, lin_sp l (acc ++ [c])]
      simp only [e]
theorem lin_cases (s : ByteArray) : ∃ m, (spS s).length = m + 1 ∧ (((spS s).getD m txNo).size = 0 → linL s = (spS s).take m) ∧ (((spS s).getD m txNo).size ≠ 0 → linL s = spS s) := by
  have hne := spA_ne s.data.toList []
  have hl : 0 < (spA [] s.data.toList).length := List.length_pos_iff.2 hne
  refine ⟨(spA [] s.data.toList).length - 1, by rw [spS, List.length_map]; omega, ?_, ?_⟩
  all_goals
    intro h
    have e : (spS s).getD ((spA [] s.data.toList).length - 1) txNo = ⟨((spA [] s.data.toList).getLast hne).toArray⟩ := by
      rw [spS, List.getD_eq_getElem?_getD, List.getElem?_map, List.getLast_eq_getElem, List.getElem?_eq_getElem (by omega)]; rfl
    rw [e] at h
    unfold linL
    rw [lin_sp]
  · have hz : ((spA [] s.data.toList).getLast hne).isEmpty = true := by
      have hh : ((spA [] s.data.toList).getLast hne).length = 0 := h
      rw [List.isEmpty_iff, ← List.length_eq_zero_iff]; exact hh
    rw [if_pos hz, spS, List.dropLast_eq_take, List.map_take]
  · have hz : ((spA [] s.data.toList).getLast hne).isEmpty = false := by
      have hh : ((spA [] s.data.toList).getLast hne).length ≠ 0 := h
      rw [List.isEmpty_eq_false_iff]; intro q; rw [q] at hh; exact hh rfl
    rw [if_neg (by rw [hz]; simp)]; rfl
theorem ret_ls {p : Option Addr} {a b c : Nat} {z : Int} (h : b = a) (hz : z = (b : Int)) : Ending.returned (.tuple #[.slice p a c, .bool (decide (z ≤ 400))]) = .returned (.tuple #[.slice p b c, .bool (decide (b ≤ 400))]) := by
  subst h; subst hz
  congr 6
  rw [Bool.eq_iff_iff, decide_eq_true_iff, decide_eq_true_iff]
  omega
end Pl
theorem rawTxs (W : World) : ∀ xs : List ByteArray, Raw W (reps xs.length [.s]) (txD xs) (xs.map .string)
  | [] => .nil
  | x :: xs => by rw [List.length_cons, reps_succ]; exact .s x (rawTxs W xs)
/-- A block of texts, or its head, is a list of texts that can be read. -/
theorem raw_of_box {W : World} {g m c : Nat} {L : List ByteArray} (h : WBox W g 9 (L.map .string)) (hm : m ≤ L.length) (hl : L.length ≤ c) (hc : c ≤ 1048576) : Raw W shTxs [.row m (txD (L.take m))] [.slice (some ⟨g, 0, none⟩) m c] := by
  have e : (L.take m).length = m := by rw [List.length_take]; omega
  have q := rawTxs W (L.take m)
  rw [e] at q
  refine .row 9 [.s] g 0 m c _ _ h.own.lt ⟨by unfold maxLen; omega, by omega⟩ ?_ q .nil
  intro j v hv
  refine h.at_ j v ?_
  rw [List.getElem?_map, List.getElem?_take] at hv
  rw [List.getElem?_map]
  split at hv
  · exact hv
  · cases hv
/-- What 'sheetLines' answers. -/
def LnAns (s : ByteArray) (e : Ending) (W : World) : Prop :=
  if 20000 < s.size then e = .returned (.tuple #[.slice none 0 0, .bool false])
  else ∃ g c, e = .returned (.tuple #[.slice (some ⟨g, 0, none⟩) (Pl.linL s).length c, .bool (decide ((Pl.linL s).length ≤ 400))]) ∧ Raw W shTxs [.row (Pl.linL s).length (txD (Pl.linL s))] [.slice (some ⟨g, 0, none⟩) (Pl.linL s).length c]

set_option maxRecDepth 8000 in
set_option maxHeartbeats 4000000 in
theorem sheetLinesI (s : ByteArray) (w : World) (hs : s.size ≤ maxLen) :
    Calls Tryz.prog 32 #[.string s] w fun e w' => LnAns s e w' ∧ Below w.heap.size w w' := by
  unfold LnAns
  by_cases h0 : 20000 < s.size
  · have d0 : ((20000 : Int) < (s.size : Int)) := by omega
    simp only [if_pos h0]
    unfold maxLen at hs
    go_enter Tryz.func32, Tryz.ntmps32
    go_wp2
    go_ret2
    exact ⟨rfl, Below.refl _ _⟩
  simp only [if_neg h0]
  have d0 : ¬ ((20000 : Int) < (s.size : Int)) := by omega
  have HC := uh (splitI s w (by omega))
  unfold maxLen at hs
  obtain ⟨m, hm, hz, hnz⟩ := Pl.lin_cases s
  have HZ := uh hz
  have HNZ := uh hnz
  have HM := uh hm
  have hmb : m ≤ 20000 := by
    have h1 := Pl.spS_len s
    have h2 : s.data.toList.count 10 ≤ s.data.toList.length := List.count_le_length
    rw [Pl.len_data] at h2
    omega
  clear hz hnz
  rw [hm] at HC
  clear hm
  go_enter Tryz.func32, Tryz.ntmps32
  go_wp2_with fail
  refine HC.out.mono ?_
  rintro e w1 ⟨g, rfl, hg, hbx, hb⟩
  have HBX := uh hbx
  have HB := uh hb
  obtain ⟨x, hx⟩ : ∃ x, x = (Pl.spS s).getD m Pl.txNo := ⟨_, rfl⟩
  rw [← hx] at HZ HNZ
  have hml : m < (Pl.spS s).length := by have := HM.out; omega
  have hc : w1.cell? ⟨g, m, none⟩ = some (.string x) := by
    refine hbx.get m _ ?_
    rw [List.getElem?_map, hx, List.getD_eq_getElem?_getD, List.getElem?_eq_getElem hml]; rfl
  have hgl := hbx.own.lt
  clear hbx hb HC hx
  have hm0 : (0 : Int) ≤ (m : Int) := by omega
  have hm1 : (m : Int) < ((m + 1 : Nat) : Int) := by omega
  by_cases hx0 : x.size = 0
  · have hxe : x = ⟨#[]⟩ := by
      cases x with
      | mk a => have : a.size = 0 := hx0; rw [Array.size_eq_zero_iff] at this; rw [this]
    have HL := uh (HZ.out hx0)
    subst hxe
    have HLE : Hid ((Pl.linL s).length = m) := by show _ = _; rw [HL.out, List.length_take]; omega
    have HRW : Hid (Raw w1 shTxs [.row (Pl.linL s).length (txD (Pl.linL s))] [.slice (some ⟨g, 0, none⟩) (Pl.linL s).length (m + 1)]) := by
      show Raw _ _ _ _
      rw [HLE.out, HL.out]
      exact raw_of_box HBX.out (by omega) (by have := HM.out; omega) (by omega)
    clear hx0
    go_wp2
    go_ret2
    exact ⟨⟨g, m + 1, Pl.ret_ls HLE.out (by rw [HLE.out]; try rfl), HRW.out⟩, HB.out⟩
  · have HL := uh (HNZ.out hx0)
    have hxe : (x.toList == []) = false := by
      rw [beq_eq_false_iff_ne, Pl.tl]
      intro q
      apply hx0
      have := congrArg List.length q
      simpa using this
    have HLE : Hid ((Pl.linL s).length = m + 1) := by show _ = _; rw [HL.out]; exact HM.out
    have HRW : Hid (Raw w1 shTxs [.row (Pl.linL s).length (txD (Pl.linL s))] [.slice (some ⟨g, 0, none⟩) (Pl.linL s).length (m + 1)]) := by
      show Raw _ _ _ _
      have q := raw_of_box (m := m + 1) (c := m + 1) HBX.out (by omega) (by have := HM.out; omega) (by omega)
      rw [List.take_of_length_le (by have := HM.out; omega)] at q
      rw [HLE.out, HL.out]
      exact q
    clear hx0
    go_wp2
    go_ret2
    exact ⟨⟨g, m + 1, Pl.ret_ls HLE.out (by rw [HLE.out]; try rfl), HRW.out⟩, HB.out⟩

end Go.Proofs.YtdllbcafbfkngaaGreatDoor

namespace Go.Proofs.YtdllbcafbfkngaaGreatDoor
open Go.RowKit Go.Deep

namespace Pl
def cutWs (x : ByteArray) : List ByteArray := (cutL x.data.toList 0).getD []
def cutBad (x : ByteArray) : Bool := (cutL x.data.toList 0).isNone
theorem cut_blank {x : ByteArray} (h : (cutWs x).length = 0) (hb : cutBad x = false) : cutL x.data.toList 0 = some [] := by
  unfold cutWs at h
  unfold cutBad at hb
  cases hc : cutL x.data.toList 0 with
  | none => rw [hc] at hb; cases hb
  | some ws => rw [hc] at h; exact congrArg some (List.eq_nil_of_length_eq_zero h)
/-- Lines that count for nothing. -/
def blank (ls : List ByteArray) (i j : Nat) : Prop := ∀ m, i ≤ m → m < j → cutL (ls.getD m txNo).data.toList 0 = some []
theorem blank.step {ls : List ByteArray} {i j : Nat} (h : blank ls i j) (hj : cutL (ls.getD j txNo).data.toList 0 = some []) : blank ls i (j + 1) := fun m h1 h2 => by
  by_cases e : m = j
  · rw [e]; exact hj
  · exact h m h1 (by omega)
end Pl
theorem cutI (x : ByteArray) (W : World) (nw : Nat) (hnw : nw ≤ W.heap.size) (hs : x.size ≤ 1048576) :
    Calls Tryz.prog 65 #[.string x] W fun e W' => ∃ a c F, e = .returned (.agg #[.slice a (Pl.cutWs x).length c, .bool (Pl.cutBad x)]) ∧ Rep W' false shTxs F [.row (Pl.cutWs x).length (txD (Pl.cutWs x))] [.slice a (Pl.cutWs x).length c] ∧ F.Nodup ∧ (∀ b ∈ F, nw ≤ b) ∧ Below W.heap.size W W' := by
  refine (sheetWordsI x W hs).mono ?_
  rintro e W' ⟨c, F, rfl, hr, hnd, hfr, hb⟩
  have hd : cutD x.data.toList = [.row (Pl.cutWs x).length (txD (Pl.cutWs x)), .b (Pl.cutBad x)] := by
    unfold cutD Pl.cutWs Pl.cutBad
    cases Pl.cutL x.data.toList 0 <;> rfl
  rw [hd] at hr
  obtain ⟨F0, v0, rfl, rfl, h0⟩ := repSheetCut hr
  obtain ⟨a, c, e⟩ := h0.raw.len0
  subst e
  rw [List.append_nil] at hnd hfr
  exact ⟨a, c, F0, rfl, h0, hnd, fun b hb => Nat.le_trans hnw (hfr b hb), hb⟩
def rdAt (rb : Nat) (W : World) : Nat := match W.cell? ⟨rb, 2, none⟩ with
  | some (.int _ n) => n.toNat
  | _ => 0
theorem rdAt_eq {rb : Nat} {W : World} {u : TypeId} {x y : Value} {n : Int} {l : List Value} (h : WBox W rb u (x :: y :: .int .i64 n :: l)) : rdAt rb W = n.toNat := by
  unfold rdAt; rw [h.get 2 _ rfl]

set_option maxHeartbeats 1000000 in
theorem faultI (rb : Nat) (at_ code : Int) (w : World) (h : w.cell? ⟨rb, 2, none⟩ = some (.int .i64 at_)) (_ : rb < w.heap.size) :
    Calls Tryz.prog 66 #[.pointer (some ⟨rb, 0, none⟩), .int .i64 code] w fun e w' => e = .returned (.iface 51 (.agg #[.int .i64 at_, .int .i64 code])) ∧ w = w' := by
  go_enter Tryz.func66, Tryz.ntmps66
  go_wp2
  go_ret
  exact ⟨rfl, rfl⟩

set_option maxHeartbeats 2000000 in
theorem endsI (rb : Nat) (ws : List ByteArray) (v : Value) (w : World) (h : w.cell? ⟨rb, 3, none⟩ = some v) (_ : rb < w.heap.size) (hr : Raw w shTxs [.row ws.length (txD ws)] [v]) :
    Calls Tryz.prog 54 #[.pointer (some ⟨rb, 0, none⟩)] w fun e w' => e = .returned (.bool (decide (ws.length = 1) && ((ws.getD 0 Pl.txNo).toList == [101, 110, 100]))) ∧ w = w' := by
  obtain ⟨a, c, ev⟩ := hr.len0
  subst ev
  by_cases h1 : ws.length = 1
  · rcases txs_open hr with ⟨e0, _⟩ | ⟨p, o, c', hv, hp, _, hopen⟩
    · omega
    injection hv with g1 _ g3
    subst g1; subst g3
    have y0 : w.cell? ⟨p, o, none⟩ = some (.string (ws.getD 0 Pl.txNo)) := by simpa using hopen 0 (by omega)
    obtain ⟨y, hy⟩ : ∃ y, y = ws.getD 0 Pl.txNo := ⟨_, rfl⟩
    rw [← hy] at y0 ⊢
    rw [decide_eq_true h1, Bool.true_and]
    clear hopen hy
    rw [h1] at h
    clear hr
    have hw : Hid (ws.length = 1) := h1
    clear h1
    go_enter Tryz.func54, Tryz.ntmps54
    go_wp2
    go_ret
    exact ⟨rfl, rfl⟩
  · rw [decide_eq_false h1, Bool.false_and]
    have d0 : ((ws.length : Int) == 1) = false := by simp; omega
    clear hr h1
    go_enter Tryz.func54, Tryz.ntmps54
    go_wp2
    go_ret
    exact ⟨rfl, rfl⟩

set_option maxRecDepth 8000 in
set_option maxHeartbeats 4000000 in
theorem countI (L : List Pl.Ln) (v : Value) (key : ByteArray) (w : World) (h : Raw w shLns [lnsD L] [v]) (hln : L.length ≤ 1048576) :
    Calls Tryz.prog 72 #[v, .string key] w fun e w' => e = .returned (.int .i64 (Pl.keyCnt L key : Nat)) ∧ Below w.heap.size w w' := by
  have HH := uh h
  obtain ⟨a, c, ev⟩ := h.len0
  subst ev
  clear h
  go_enter Tryz.func72, Tryz.ntmps72
  go_wp2
  go_loopw [5, 10] (fun vc vi wr => ∃ k m : Nat, k ≤ L.length ∧ m ≤ k ∧ vi = .int .i64 k ∧ vc = .int .i64 m ∧ Pl.keyCnt (L.take k) key = m ∧ Below w.heap.size w wr) (fun _ vi _ => L.length - (intOf vi).toNat)
  case atStart => exact ⟨0, 0, Nat.zero_le _, Nat.le_refl _, rfl, rfl, rfl, Below.refl _ _⟩
  case round =>
    obtain ⟨k, m, hk, hmk, rfl, rfl, hc, hW⟩ := hrel
    have HC := uh hc
    have HW := uh hW
    clear hc hW
    by_cases hlt : k < L.length
    rotate_left
    · obtain rfl : k = L.length := by omega
      have HE : Hid (m = Pl.keyCnt L key) := by show m = _; rw [← HC.out, List.take_length]
      go_wp2
      go_ret
      exact ⟨by rw [← HE.out]; rfl, HW.out⟩
    rcases lns_open HH.out with ⟨e0, _⟩ | ⟨p, o, c', hv, hp, _, hopen⟩
    · omega
    injection hv with g1 _ g3
    subst g1; subst g3
    obtain ⟨ax, cx, hg, _⟩ := hopen k hlt
    obtain ⟨x, hx⟩ : ∃ x, x = L.getD k Pl.lnNo := ⟨_, rfl⟩
    rw [← hx] at hg
    have hgr := rA_later hg hp HW.out
    have x0 : wr.cell? ⟨p, o + k * 2, none⟩ = some (.string x.key) := rA_get hgr 0 _ rfl
    have x1 : wr.cell? ⟨p, o + k * 2 + 1, none⟩ = some (.slice ax x.ws.length cx) := rA_get hgr 1 _ rfl
    have hpr : p < wr.heap.size := Nat.lt_of_lt_of_le hp HW.out.size
    have hk0 : (0 : Int) ≤ (k : Int) := by omega
    have hkn : (k : Int) < (L.length : Int) := by omega
    have hwm : IntKind.i64.wrap ((m : Int) + 1) = (m : Int) + 1 := wrapI _ (by omega) (by omega)
    have HN : Hid (Pl.keyCnt (L.take (k + 1)) key = if x.key.toList == key.toList then m + 1 else m) := by
      show _ = _
      have e : L.getD k Pl.lnNo = L[k] := by simp [hlt]
      unfold Pl.keyCnt at HC ⊢
      rw [List.take_succ_eq_append_getElem hlt, List.countP_append, HC.out, hx, e]
      have c : List.countP (fun x => Pl.txEq x.key key) [L[k]] = if Pl.txEq L[k].key key then 1 else 0 := by
        rw [List.countP_cons, List.countP_nil]; simp
      rw [c]
      unfold Pl.txEq
      cases L[k].key.toList == key.toList <;> rfl
    clear hopen hg hgr hx
    cases hq : (x.key.toList == key.toList)
    · rw [hq] at HN
      go_wp2
      go_roundw
      case rel => exact ⟨k + 1, m, by omega, by omega, by go_num, rfl, HN.out, blw_alloc HW.out _⟩
      case measure => simp [intOf]; omega
    · rw [hq] at HN
      go_wp2
      go_roundw
      case rel => exact ⟨k + 1, m + 1, by omega, by omega, by go_num, by go_num, HN.out, blw_alloc HW.out _⟩
      case measure => simp [intOf]; omega

/-- What 'next' leaves. -/
def NextA (rb : Nat) (mv : Value) (la : Option Addr) (lc : Nat) (ls : List ByteArray) (k : Nat) (bv : Value) (op : Int) (w : World) (e : Ending) (w' : World) : Prop :=
  (∃ j, k ≤ j ∧ j < ls.length ∧ Pl.blank ls k j ∧ e = .returned (.bool true) ∧ ∃ a c F, WBox w' rb 79 [mv, .slice la ls.length lc, .int .i64 ((j + 1 : Nat) : Int), .slice a (Pl.cutWs (ls.getD j Pl.txNo)).length c, .bool (Pl.cutBad (ls.getD j Pl.txNo)), bv, .int .i64 op] ∧ Rep w' false shTxs F [.row (Pl.cutWs (ls.getD j Pl.txNo)).length (txD (Pl.cutWs (ls.getD j Pl.txNo)))] [.slice a (Pl.cutWs (ls.getD j Pl.txNo)).length c] ∧ F.Nodup ∧ (∀ b ∈ F, w.heap.size ≤ b) ∧ (Pl.cutBad (ls.getD j Pl.txNo) = true ∨ (Pl.cutWs (ls.getD j Pl.txNo)).length ≠ 0) ∧ Marks (fun b => b = rb) w w') ∨
  (Pl.blank ls k ls.length ∧ e = .returned (.bool false) ∧ (∃ cw cb, WBox w' rb 79 [mv, .slice la ls.length lc, .int .i64 (ls.length : Nat), cw, .bool cb, bv, .int .i64 op]) ∧ Marks (fun b => b = rb) w w')
def VXa (rb : Nat) (p : Nat) (o : Nat) (lc : Nat) (i : Nat) (ls : List ByteArray) : Nat → Value → World → Prop
  | 0, vv, _ => vv = .pointer (some ⟨rb, 0, none⟩)
  | 1, vv, _ => vv = .pointer (some ⟨rb, 0, none⟩)
  | 2, vv, _ => vv = .pointer (some ⟨rb, 2, none⟩)
  | 3, vv, _ => vv = .int .i64 (i : Int)
  | 4, vv, _ => vv = .pointer (some ⟨rb, 0, none⟩)
  | 5, vv, _ => vv = .pointer (some ⟨rb, 0, none⟩)
  | 6, vv, _ => vv = .pointer (some ⟨rb, 1, none⟩)
  | 7, vv, _ => vv = .slice (some ⟨p, o, none⟩) ls.length lc
  | 8, vv, _ => vv = .int .i64 (ls.length : Int)
  | 9, vv, _ => vv = .bool true
  | _, _, _ => True
theorem VXa_mono (rb : Nat) (p : Nat) (o : Nat) (lc : Nat) (i : Nat) (ls : List ByteArray) : ∀ jj vv W W', Below W.heap.size W W' → VXa rb p o lc i ls jj vv W → VXa rb p o lc i ls jj vv W' := by
  intro jj vv W W' hb h
  match jj with
  | 0 => exact h
  | 1 => exact h
  | 2 => exact h
  | 3 => exact h
  | 4 => exact h
  | 5 => exact h
  | 6 => exact h
  | 7 => exact h
  | 8 => exact h
  | 9 => exact h
  | n + 10 => exact trivial
def VXb (rb : Nat) (lc : Nat) (i : Nat) (la : Option Addr) (ls : List ByteArray) : Nat → Value → World → Prop
  | 0, vv, _ => vv = .pointer (some ⟨rb, 0, none⟩)
  | 1, vv, _ => vv = .pointer (some ⟨rb, 0, none⟩)
  | 2, vv, _ => vv = .pointer (some ⟨rb, 2, none⟩)
  | 3, vv, _ => vv = .int .i64 (i : Int)
  | 4, vv, _ => vv = .pointer (some ⟨rb, 0, none⟩)
  | 5, vv, _ => vv = .pointer (some ⟨rb, 0, none⟩)
  | 6, vv, _ => vv = .pointer (some ⟨rb, 1, none⟩)
  | 7, vv, _ => vv = .slice la ls.length lc
  | 8, vv, _ => vv = .int .i64 (ls.length : Int)
  | 9, vv, _ => vv = .bool false
  | _, _, _ => True
theorem VXb_mono (rb : Nat) (lc : Nat) (i : Nat) (la : Option Addr) (ls : List ByteArray) : ∀ jj vv W W', Below W.heap.size W W' → VXb rb lc i la ls jj vv W → VXb rb lc i la ls jj vv W' := by
  intro jj vv W W' hb h
  match jj with
  | 0 => exact h
  | 1 => exact h
  | 2 => exact h
  | 3 => exact h
  | 4 => exact h
  | 5 => exact h
  | 6 => exact h
  | 7 => exact h
  | 8 => exact h
  | 9 => exact h
  | n + 10 => exact trivial
def VXc (rb : Nat) (p : Nat) (o : Nat) (lc : Nat) (i : Nat) (nw : Nat) (ls : List ByteArray) (x : ByteArray) : Nat → Value → World → Prop
  | 0, vv, _ => vv = .pointer (some ⟨rb, 0, none⟩)
  | 1, vv, _ => vv = .pointer (some ⟨rb, 0, none⟩)
  | 2, vv, _ => vv = .pointer (some ⟨rb, 0, none⟩)
  | 3, vv, _ => vv = .pointer (some ⟨rb, 1, none⟩)
  | 4, vv, _ => vv = .slice (some ⟨p, o, none⟩) ls.length lc
  | 5, vv, _ => vv = .pointer (some ⟨rb, 0, none⟩)
  | 6, vv, _ => vv = .pointer (some ⟨rb, 0, none⟩)
  | 7, vv, _ => vv = .pointer (some ⟨rb, 2, none⟩)
  | 8, vv, _ => vv = .int .i64 (i : Int)
  | 9, vv, _ => vv = .pointer (some ⟨p, o + i, none⟩)
  | 10, vv, _ => vv = .string x
  | 11, vv, W => ∃ a c F, vv = .agg #[.slice a (Pl.cutWs x).length c, .bool (Pl.cutBad x)] ∧ Rep W false shTxs F [.row (Pl.cutWs x).length (txD (Pl.cutWs x))] [.slice a (Pl.cutWs x).length c] ∧ F.Nodup ∧ ∀ b ∈ F, nw ≤ b
  | 12, vv, _ => vv = .pointer (some ⟨rb, 0, none⟩)
  | 13, vv, _ => vv = .pointer (some ⟨rb, 3, none⟩)
  | _, _, _ => True
theorem VXc_mono (rb : Nat) (p : Nat) (o : Nat) (lc : Nat) (i : Nat) (nw : Nat) (ls : List ByteArray) (x : ByteArray) : ∀ jj vv W W', Below W.heap.size W W' → VXc rb p o lc i nw ls x jj vv W → VXc rb p o lc i nw ls x jj vv W' := by
  intro jj vv W W' hb h
  match jj with
  | 0 => exact h
  | 1 => exact h
  | 2 => exact h
  | 3 => exact h
  | 4 => exact h
  | 5 => exact h
  | 6 => exact h
  | 7 => exact h
  | 8 => exact h
  | 9 => exact h
  | 10 => exact h
  | 11 =>
    obtain ⟨a, c, F, h1, h2, h3, h4⟩ := h
    exact ⟨a, c, F, h1, h2.later hb, h3, h4⟩
  | 12 => exact h
  | 13 => exact h
  | n + 14 => exact trivial

set_option maxRecDepth 8000 in
set_option maxHeartbeats 16000000 in
theorem nextI (rb : Nat) (mv : Value) (la : Option Addr) (lc : Nat) (ls : List ByteArray) (k : Nat) (cw bv : Value) (cb : Bool) (op : Int) (w0 w : World) (hrd : WBox w rb 79 [mv, .slice la ls.length lc, .int .i64 k, cw, .bool cb, bv, .int .i64 op]) (hls : Raw w0 shTxs [.row ls.length (txD ls)] [.slice la ls.length lc]) (hb0 : Below w0.heap.size w0 w) (hrb : w0.heap.size ≤ rb) (hk : k ≤ ls.length) (hsz : ∀ x ∈ ls, x.size ≤ 1048576) (hlen : ls.length ≤ 1048576) :
    Calls Tryz.prog 52 #[.pointer (some ⟨rb, 0, none⟩)] w (NextA rb mv la lc ls k bv op w) := by
  have HRD0 := uh hrd
  have HLS := uh hls
  have HB0 := uh hb0
  have HRB := uh hrb
  have HSZ := uh hsz
  have HRW : Hid (rb < w.heap.size) := hrd.own.lt
  clear hrd hls hb0 hrb hsz
  go_enter Tryz.func52, Tryz.ntmps52
  go_wp2_with fail
  go_loopw [2] (fun v2 wr => v2 = .bool false ∧ ∃ (i : Nat) (cw : Value) (cb : Bool), k ≤ i ∧ i ≤ ls.length ∧ Pl.blank ls k i ∧ WBox wr rb 79 [mv, .slice la ls.length lc, .int .i64 i, cw, .bool cb, bv, .int .i64 op] ∧ Marks (fun b => b = rb) w wr) (fun _ wr => ls.length - rdAt rb wr)
  case atStart => exact ⟨rfl, k, cw, cb, Nat.le_refl _, hk, fun m h1 h2 => by omega, HRD0.out, Marks.refl _ _⟩
  case round =>
    obtain ⟨rfl, i, cw, cb, hki, hil0, hblk, hrd, hmk⟩ := hrel
    have HRD := uh hrd
    have HBLK := uh hblk
    have HMK := uh hmk
    have HRL : Hid (rb < wr.heap.size) := hrd.own.lt
    have HBL : Hid (Below w0.heap.size w0 wr) := hmk.below (fun b e => by rw [e]; exact HRB.out) HB0.out
    clear hrd hblk hmk
    by_cases hlt : i < ls.length
    rotate_left
    · have HIE : Hid (i = ls.length) := by show _ = _; omega
      have hil : ¬ ((i : Int) < (ls.length : Int)) := by omega
      go_upto_region 1 with fail
      refine RY.region_past wr (Below.refl _ _) (VXb rb lc i la ls) (VXb_mono _ _ _ _ _) (by kernel_rfl) (by kernel_rfl) (by kernel_rfl) (by kernel_rfl) ?_ ?_
      · intro ii o' ho a X hX hk hd
        have zrb := HRD.out.later hX
        have zrbl := zrb.own.lt
        match ii, ho with
        | 0, ho =>
          injection ho with ho; subst ho
          have e0 : a.tmps[0]?.getD undef = .pointer (some ⟨rb, 0, none⟩) := (RY.ev_tmp a 0).trans ((hk 0 (by kernel_rfl)).trans rfl)
          exact Or.inl ⟨.pointer (some ⟨rb, 0, none⟩), X, by simp [execOp, go_sem, e0], Below.refl _ _, rfl⟩
        | 1, ho =>
          injection ho with ho; subst ho
          have e3 : a.tmps[3]?.getD undef = .pointer (some ⟨rb, 0, none⟩) := (RY.ev_tmp a 3).trans (hd 0 _ 3 rfl rfl ⟨⟨0, .data⟩, by simp, rfl, rfl⟩)
          exact Or.inl ⟨.pointer (some ⟨rb, 0, none⟩), X, by simp [execOp, go_sem, e3], Below.refl _ _, rfl⟩
        | 2, ho =>
          injection ho with ho; subst ho
          have e4 : a.tmps[4]?.getD undef = .pointer (some ⟨rb, 0, none⟩) := (RY.ev_tmp a 4).trans (hd 1 _ 4 rfl rfl ⟨⟨1, .data⟩, by simp, rfl, rfl⟩)
          exact Or.inl ⟨.pointer (some ⟨rb, 2, none⟩), X, by simp [execOp, go_sem, e4], Below.refl _ _, rfl⟩
        | 3, ho =>
          injection ho with ho; subst ho
          have e5 : a.tmps[5]?.getD undef = .pointer (some ⟨rb, 2, none⟩) := (RY.ev_tmp a 5).trans (hd 2 _ 5 rfl rfl ⟨⟨2, .data⟩, by simp, rfl, rfl⟩)
          have ycl_ := zrb.get 2 _ rfl
          exact Or.inl ⟨.int .i64 (i : Int), X, by simp [execOp, go_sem, e5, ycl_], Below.refl _ _, rfl⟩
        | 4, ho =>
          injection ho with ho; subst ho
          have e0 : a.tmps[0]?.getD undef = .pointer (some ⟨rb, 0, none⟩) := (RY.ev_tmp a 0).trans ((hk 0 (by kernel_rfl)).trans rfl)
          exact Or.inl ⟨.pointer (some ⟨rb, 0, none⟩), X, by simp [execOp, go_sem, e0], Below.refl _ _, rfl⟩
        | 5, ho =>
          injection ho with ho; subst ho
          have e7 : a.tmps[7]?.getD undef = .pointer (some ⟨rb, 0, none⟩) := (RY.ev_tmp a 7).trans (hd 4 _ 7 rfl rfl ⟨⟨4, .data⟩, by simp, rfl, rfl⟩)
          exact Or.inl ⟨.pointer (some ⟨rb, 0, none⟩), X, by simp [execOp, go_sem, e7], Below.refl _ _, rfl⟩
        | 6, ho =>
          injection ho with ho; subst ho
          have e8 : a.tmps[8]?.getD undef = .pointer (some ⟨rb, 0, none⟩) := (RY.ev_tmp a 8).trans (hd 5 _ 8 rfl rfl ⟨⟨5, .data⟩, by simp, rfl, rfl⟩)
          exact Or.inl ⟨.pointer (some ⟨rb, 1, none⟩), X, by simp [execOp, go_sem, e8], Below.refl _ _, rfl⟩
        | 7, ho =>
          injection ho with ho; subst ho
          have e9 : a.tmps[9]?.getD undef = .pointer (some ⟨rb, 1, none⟩) := (RY.ev_tmp a 9).trans (hd 6 _ 9 rfl rfl ⟨⟨6, .data⟩, by simp, rfl, rfl⟩)
          have ycl_ := zrb.get 1 _ rfl
          exact Or.inl ⟨.slice la ls.length lc, X, by simp [execOp, go_sem, e9, ycl_], Below.refl _ _, rfl⟩
        | 8, ho =>
          injection ho with ho; subst ho
          have e10 : a.tmps[10]?.getD undef = .slice la ls.length lc := (RY.ev_tmp a 10).trans (hd 7 _ 10 rfl rfl ⟨⟨7, .data⟩, by simp, rfl, rfl⟩)
          exact Or.inl ⟨.int .i64 (ls.length : Int), X, by simp [go_sem, e10], Below.refl _ _, rfl⟩
        | 9, ho =>
          injection ho with ho; subst ho
          have e6 : a.tmps[6]?.getD undef = .int .i64 (i : Int) := (RY.ev_tmp a 6).trans (hd 3 _ 6 rfl rfl ⟨⟨3, .data⟩, by simp, rfl, rfl⟩)
          have e11 : a.tmps[11]?.getD undef = .int .i64 (ls.length : Int) := (RY.ev_tmp a 11).trans (hd 8 _ 11 rfl rfl ⟨⟨8, .data⟩, by simp, rfl, rfl⟩)
          exact Or.inl ⟨.bool false, X, by simp [execOp, go_sem, e6, e11, hil], Below.refl _ _, rfl⟩
        | n + 10, ho => simp at ho
      intro X vs hX hvs
      have q12 : vs 12 = _ := hvs 9 _ 12 rfl rfl
      simp only [RY.putAll, Act.put, List.setIfInBounds_toArray, List.set_cons_zero, List.set_cons_succ]
      rw [q12]
      generalize vs 3 = s3
      generalize vs 4 = s4
      generalize vs 5 = s5
      generalize vs 6 = s6
      generalize vs 7 = s7
      generalize vs 8 = s8
      generalize vs 9 = s9
      generalize vs 10 = s10
      generalize vs 11 = s11
      clear hvs q12
      have hb9 := HBLK.out
      have hr9 := HRD.out.later hX
      rw [HIE.out] at hb9 hr9
      have H9 := uh (And.intro hb9 hr9)
      clear hb9 hr9
      go_wp2
      go_ret
      exact Or.inr ⟨H9.out.1, rfl, ⟨cw, cb, H9.out.2⟩, HMK.out.trans (Marks.of_below _ hX)⟩
    · rcases txs_open HLS.out with ⟨e0, _⟩ | ⟨p, o, c', hv, hp, _, hopen⟩
      · omega
      injection hv with g1 _ g3
      subst g1; subst g3
      have hil : (i : Int) < (ls.length : Int) := by omega
      have hi0 : (0 : Int) ≤ (i : Int) := by omega
      obtain ⟨x, hx⟩ : ∃ x, x = ls.getD i Pl.txNo := ⟨_, rfl⟩
      have HXE := uh hx
      have y0 := hopen i hlt
      rw [← hx] at y0
      have HGX : Hid (wr.rangeAt p (o + i) [.string x]) := by
        show World.rangeAt _ _ _ _
        intro j v hv
        cases j with
        | zero => injection hv with hv; subst hv; exact (HBL.out.cell (p := ⟨p, o + i, none⟩) hp).trans y0
        | succ j => cases hv
      have HPZ : Hid (p < wr.heap.size) := Nat.lt_of_lt_of_le hp HBL.out.size
      have HXS : Hid (x.size ≤ 1048576) := by
        have e : ls.getD i Pl.txNo = ls[i] := by simp [hlt]
        rw [hx, e]; exact HSZ.out _ (List.getElem_mem hlt)
      clear hopen hx y0
      go_upto_region 1 with fail
      refine RY.region_past wr (Below.refl _ _) (VXa rb p o lc i ls) (VXa_mono _ _ _ _ _ _) (by kernel_rfl) (by kernel_rfl) (by kernel_rfl) (by kernel_rfl) ?_ ?_
      · intro ii o' ho a X hX hk hd
        have zrb := HRD.out.later hX
        have zrbl := zrb.own.lt
        match ii, ho with
        | 0, ho =>
          injection ho with ho; subst ho
          have e0 : a.tmps[0]?.getD undef = .pointer (some ⟨rb, 0, none⟩) := (RY.ev_tmp a 0).trans ((hk 0 (by kernel_rfl)).trans rfl)
          exact Or.inl ⟨.pointer (some ⟨rb, 0, none⟩), X, by simp [execOp, go_sem, e0], Below.refl _ _, rfl⟩
        | 1, ho =>
          injection ho with ho; subst ho
          have e3 : a.tmps[3]?.getD undef = .pointer (some ⟨rb, 0, none⟩) := (RY.ev_tmp a 3).trans (hd 0 _ 3 rfl rfl ⟨⟨0, .data⟩, by simp, rfl, rfl⟩)
          exact Or.inl ⟨.pointer (some ⟨rb, 0, none⟩), X, by simp [execOp, go_sem, e3], Below.refl _ _, rfl⟩
        | 2, ho =>
          injection ho with ho; subst ho
          have e4 : a.tmps[4]?.getD undef = .pointer (some ⟨rb, 0, none⟩) := (RY.ev_tmp a 4).trans (hd 1 _ 4 rfl rfl ⟨⟨1, .data⟩, by simp, rfl, rfl⟩)
          exact Or.inl ⟨.pointer (some ⟨rb, 2, none⟩), X, by simp [execOp, go_sem, e4], Below.refl _ _, rfl⟩
        | 3, ho =>
          injection ho with ho; subst ho
          have e5 : a.tmps[5]?.getD undef = .pointer (some ⟨rb, 2, none⟩) := (RY.ev_tmp a 5).trans (hd 2 _ 5 rfl rfl ⟨⟨2, .data⟩, by simp, rfl, rfl⟩)
          have ycl_ := zrb.get 2 _ rfl
          exact Or.inl ⟨.int .i64 (i : Int), X, by simp [execOp, go_sem, e5, ycl_], Below.refl _ _, rfl⟩
        | 4, ho =>
          injection ho with ho; subst ho
          have e0 : a.tmps[0]?.getD undef = .pointer (some ⟨rb, 0, none⟩) := (RY.ev_tmp a 0).trans ((hk 0 (by kernel_rfl)).trans rfl)
          exact Or.inl ⟨.pointer (some ⟨rb, 0, none⟩), X, by simp [execOp, go_sem, e0], Below.refl _ _, rfl⟩
        | 5, ho =>
          injection ho with ho; subst ho
          have e7 : a.tmps[7]?.getD undef = .pointer (some ⟨rb, 0, none⟩) := (RY.ev_tmp a 7).trans (hd 4 _ 7 rfl rfl ⟨⟨4, .data⟩, by simp, rfl, rfl⟩)
          exact Or.inl ⟨.pointer (some ⟨rb, 0, none⟩), X, by simp [execOp, go_sem, e7], Below.refl _ _, rfl⟩
        | 6, ho =>
          injection ho with ho; subst ho
          have e8 : a.tmps[8]?.getD undef = .pointer (some ⟨rb, 0, none⟩) := (RY.ev_tmp a 8).trans (hd 5 _ 8 rfl rfl ⟨⟨5, .data⟩, by simp, rfl, rfl⟩)
          exact Or.inl ⟨.pointer (some ⟨rb, 1, none⟩), X, by simp [execOp, go_sem, e8], Below.refl _ _, rfl⟩
        | 7, ho =>
          injection ho with ho; subst ho
          have e9 : a.tmps[9]?.getD undef = .pointer (some ⟨rb, 1, none⟩) := (RY.ev_tmp a 9).trans (hd 6 _ 9 rfl rfl ⟨⟨6, .data⟩, by simp, rfl, rfl⟩)
          have ycl_ := zrb.get 1 _ rfl
          exact Or.inl ⟨.slice (some ⟨p, o, none⟩) ls.length lc, X, by simp [execOp, go_sem, e9, ycl_], Below.refl _ _, rfl⟩
        | 8, ho =>
          injection ho with ho; subst ho
          have e10 : a.tmps[10]?.getD undef = .slice (some ⟨p, o, none⟩) ls.length lc := (RY.ev_tmp a 10).trans (hd 7 _ 10 rfl rfl ⟨⟨7, .data⟩, by simp, rfl, rfl⟩)
          exact Or.inl ⟨.int .i64 (ls.length : Int), X, by simp [go_sem, e10], Below.refl _ _, rfl⟩
        | 9, ho =>
          injection ho with ho; subst ho
          have e6 : a.tmps[6]?.getD undef = .int .i64 (i : Int) := (RY.ev_tmp a 6).trans (hd 3 _ 6 rfl rfl ⟨⟨3, .data⟩, by simp, rfl, rfl⟩)
          have e11 : a.tmps[11]?.getD undef = .int .i64 (ls.length : Int) := (RY.ev_tmp a 11).trans (hd 8 _ 11 rfl rfl ⟨⟨8, .data⟩, by simp, rfl, rfl⟩)
          exact Or.inl ⟨.bool true, X, by simp [execOp, go_sem, e6, e11, hil], Below.refl _ _, rfl⟩
        | n + 10, ho => simp at ho
      intro X vs hX hvs
      have q12 : vs 12 = _ := hvs 9 _ 12 rfl rfl
      simp only [RY.putAll, Act.put, List.setIfInBounds_toArray, List.set_cons_zero, List.set_cons_succ]
      rw [q12]
      generalize vs 3 = s3
      generalize vs 4 = s4
      generalize vs 5 = s5
      generalize vs 6 = s6
      generalize vs 7 = s7
      generalize vs 8 = s8
      generalize vs 9 = s9
      generalize vs 10 = s10
      generalize vs 11 = s11
      clear hvs q12
      have HRDO := HRD
      have HRD2 := uh (HRD.out.later hX)
      have HMK2_ : Hid (Marks (fun b => b = rb) w X) := HMK.out.trans (Marks.of_below _ hX)
      replace HRD := HRD2
      replace HMK := HMK2_
      replace HGX := uh (rA_later HGX.out HPZ.out hX)
      replace HPZ : Hid (p < X.heap.size) := Nat.lt_of_lt_of_le HPZ.out hX.size
      replace HRL : Hid (rb < X.heap.size) := Nat.lt_of_lt_of_le HRL.out hX.size
      obtain ⟨wq, hwq⟩ : ∃ wq, wq = X := ⟨_, rfl⟩
      rw [← hwq] at HRD HMK HGX HPZ HRL ⊢
      clear hwq hX HRD2 HMK2_
      have HCW := uh (fun (X : World) (hX : Below wq.heap.size wq X) => cutI x X wq.heap.size hX.size HXS.out)
      go_upto_region 2 with fail
      refine RY.region_st wq (Below.refl _ _) (VXc rb p o lc i wq.heap.size ls x) (VXc_mono _ _ _ _ _ _ _ _) (fun _ W' => ∃ ca cc F, WBox W' rb 79 [mv, .slice (some ⟨p, o, none⟩) ls.length lc, .int .i64 (i : Int), .slice ca (Pl.cutWs x).length cc, .bool (Pl.cutBad x), bv, .int .i64 op] ∧ Rep W' false shTxs F [.row (Pl.cutWs x).length (txD (Pl.cutWs x))] [.slice ca (Pl.cutWs x).length cc] ∧ F.Nodup ∧ (∀ b ∈ F, w.heap.size ≤ b) ∧ Marks (fun b => b = rb) w W') 14 12 (by kernel_rfl) (by kernel_rfl) (by kernel_rfl) (by kernel_rfl) rfl [11, 13] (by kernel_rfl) (by kernel_rfl) _ rfl rfl (by kernel_rfl) ?_ ?_ ?_
      · intro ii o' ho hii a X hX hk hd
        have zrb := HRD.out.later hX
        have zrbl := zrb.own.lt
        match ii, ho with
        | 0, ho =>
          injection ho with ho; subst ho
          have e0 : a.tmps[0]?.getD undef = .pointer (some ⟨rb, 0, none⟩) := (RY.ev_tmp a 0).trans ((hk 0 (by kernel_rfl)).trans rfl)
          exact Or.inl ⟨.pointer (some ⟨rb, 0, none⟩), X, by simp [execOp, go_sem, e0], Below.refl _ _, rfl⟩
        | 1, ho =>
          injection ho with ho; subst ho
          have e0 : a.tmps[0]?.getD undef = .pointer (some ⟨rb, 0, none⟩) := (RY.ev_tmp a 0).trans ((hk 0 (by kernel_rfl)).trans rfl)
          exact Or.inl ⟨.pointer (some ⟨rb, 0, none⟩), X, by simp [execOp, go_sem, e0], Below.refl _ _, rfl⟩
        | 2, ho =>
          injection ho with ho; subst ho
          have e14 : a.tmps[14]?.getD undef = .pointer (some ⟨rb, 0, none⟩) := (RY.ev_tmp a 14).trans (hd 1 _ 14 rfl rfl ⟨⟨1, .data⟩, by simp, rfl, rfl⟩ (by decide))
          exact Or.inl ⟨.pointer (some ⟨rb, 0, none⟩), X, by simp [execOp, go_sem, e14], Below.refl _ _, rfl⟩
        | 3, ho =>
          injection ho with ho; subst ho
          have e15 : a.tmps[15]?.getD undef = .pointer (some ⟨rb, 0, none⟩) := (RY.ev_tmp a 15).trans (hd 2 _ 15 rfl rfl ⟨⟨2, .data⟩, by simp, rfl, rfl⟩ (by decide))
          exact Or.inl ⟨.pointer (some ⟨rb, 1, none⟩), X, by simp [execOp, go_sem, e15], Below.refl _ _, rfl⟩
        | 4, ho =>
          injection ho with ho; subst ho
          have e16 : a.tmps[16]?.getD undef = .pointer (some ⟨rb, 1, none⟩) := (RY.ev_tmp a 16).trans (hd 3 _ 16 rfl rfl ⟨⟨3, .data⟩, by simp, rfl, rfl⟩ (by decide))
          have ycl_ := zrb.get 1 _ rfl
          exact Or.inl ⟨.slice (some ⟨p, o, none⟩) ls.length lc, X, by simp [execOp, go_sem, e16, ycl_], Below.refl _ _, rfl⟩
        | 5, ho =>
          injection ho with ho; subst ho
          have e0 : a.tmps[0]?.getD undef = .pointer (some ⟨rb, 0, none⟩) := (RY.ev_tmp a 0).trans ((hk 0 (by kernel_rfl)).trans rfl)
          exact Or.inl ⟨.pointer (some ⟨rb, 0, none⟩), X, by simp [execOp, go_sem, e0], Below.refl _ _, rfl⟩
        | 6, ho =>
          injection ho with ho; subst ho
          have e18 : a.tmps[18]?.getD undef = .pointer (some ⟨rb, 0, none⟩) := (RY.ev_tmp a 18).trans (hd 5 _ 18 rfl rfl ⟨⟨5, .data⟩, by simp, rfl, rfl⟩ (by decide))
          exact Or.inl ⟨.pointer (some ⟨rb, 0, none⟩), X, by simp [execOp, go_sem, e18], Below.refl _ _, rfl⟩
        | 7, ho =>
          injection ho with ho; subst ho
          have e19 : a.tmps[19]?.getD undef = .pointer (some ⟨rb, 0, none⟩) := (RY.ev_tmp a 19).trans (hd 6 _ 19 rfl rfl ⟨⟨6, .data⟩, by simp, rfl, rfl⟩ (by decide))
          exact Or.inl ⟨.pointer (some ⟨rb, 2, none⟩), X, by simp [execOp, go_sem, e19], Below.refl _ _, rfl⟩
        | 8, ho =>
          injection ho with ho; subst ho
          have e20 : a.tmps[20]?.getD undef = .pointer (some ⟨rb, 2, none⟩) := (RY.ev_tmp a 20).trans (hd 7 _ 20 rfl rfl ⟨⟨7, .data⟩, by simp, rfl, rfl⟩ (by decide))
          have ycl_ := zrb.get 2 _ rfl
          exact Or.inl ⟨.int .i64 (i : Int), X, by simp [execOp, go_sem, e20, ycl_], Below.refl _ _, rfl⟩
        | 9, ho =>
          injection ho with ho; subst ho
          have e17 : a.tmps[17]?.getD undef = .slice (some ⟨p, o, none⟩) ls.length lc := (RY.ev_tmp a 17).trans (hd 4 _ 17 rfl rfl ⟨⟨4, .data⟩, by simp, rfl, rfl⟩ (by decide))
          have e21 : a.tmps[21]?.getD undef = .int .i64 (i : Int) := (RY.ev_tmp a 21).trans (hd 8 _ 21 rfl rfl ⟨⟨8, .data⟩, by simp, rfl, rfl⟩ (by decide))
          exact Or.inl ⟨.pointer (some ⟨p, o + i, none⟩), X, by simp [execOp, go_sem, e17, e21, hi0, hil], Below.refl _ _, rfl⟩
        | 10, ho =>
          injection ho with ho; subst ho
          have e22 : a.tmps[22]?.getD undef = .pointer (some ⟨p, o + i, none⟩) := (RY.ev_tmp a 22).trans (hd 9 _ 22 rfl rfl ⟨⟨9, .data⟩, by simp, rfl, rfl⟩ (by decide))
          have ypl_ := Nat.lt_of_lt_of_le HPZ.out hX.size
          have ycl_ : X.cell? ⟨p, o + i, none⟩ = some (.string x) := by have q := rA_get (rA_later HGX.out HPZ.out hX) 0 _ rfl; simpa using q
          exact Or.inl ⟨.string x, X, by simp [execOp, go_sem, e22, ycl_], Below.refl _ _, rfl⟩
        | 11, ho =>
          injection ho with ho; subst ho
          have e23 : a.tmps[23]?.getD undef = .string x := (RY.ev_tmp a 23).trans (hd 10 _ 23 rfl rfl ⟨⟨10, .data⟩, by simp, rfl, rfl⟩ (by decide))
          refine Or.inr ⟨65, #[.string x], by simp [go_sem, e23], (HCW.out X hX).mono ?_⟩
          rintro e W' ⟨a, c, F, rfl, h2, h3, h4, hb⟩
          exact ⟨_, rfl, hb, a, c, F, rfl, h2, h3, h4⟩
        | 12, ho =>
          injection ho with ho; subst ho
          have e13 : a.tmps[13]?.getD undef = .pointer (some ⟨rb, 0, none⟩) := (RY.ev_tmp a 13).trans (hd 0 _ 13 rfl rfl ⟨⟨0, .data⟩, by simp, rfl, rfl⟩ (by decide))
          exact Or.inl ⟨.pointer (some ⟨rb, 0, none⟩), X, by simp [execOp, go_sem, e13], Below.refl _ _, rfl⟩
        | 13, ho =>
          injection ho with ho; subst ho
          have e25 : a.tmps[25]?.getD undef = .pointer (some ⟨rb, 0, none⟩) := (RY.ev_tmp a 25).trans (hd 12 _ 25 rfl rfl ⟨⟨12, .data⟩, by simp, rfl, rfl⟩ (by decide))
          exact Or.inl ⟨.pointer (some ⟨rb, 3, none⟩), X, by simp [execOp, go_sem, e25], Below.refl _ _, rfl⟩
        | n + 14, ho => omega
      · intro a X vals hX hk hV hd
        obtain ⟨ca, cc, F, e1, hrp, hnd, hfr⟩ := hV 11 (by decide)
        have e2 : a.eval (.tmp 24) = _ := (hd 11 _ 24 rfl rfl ⟨⟨11, .data⟩, by simp, rfl, rfl⟩ (by decide)).trans e1
        have e3 : a.eval (.tmp 26) = .pointer (some ⟨rb, 3, none⟩) := (hd 13 _ 26 rfl rfl ⟨⟨13, .data⟩, by simp, rfl, rfl⟩ (by decide)).trans (hV 13 (by decide))
        have hO := HRD.out.later hX
        have hth : X.there rb 3 2 := uthere hO.own _ _ (by simp)
        refine ⟨X.setCells rb 3 [.slice ca (Pl.cutWs x).length cc, .bool (Pl.cutBad x)], RY.exec_store_mid _ _ _ rfl e3 e2 hth (by kernel_rfl) (by simp [Value.oneCell']), ca, cc, F, ?_, ?_, hnd, ?_, ?_⟩
        · exact hO.puts (x := [mv, .slice (some ⟨p, o, none⟩) ls.length lc, .int .i64 (i : Int)]) (y := [cw, .bool cb]) (z := [bv, .int .i64 op]) [.slice ca (Pl.cutWs x).length cc, .bool (Pl.cutBad x)] rfl
        · exact hrp.keep (mks_scs (S := fun b => b = rb) rfl _ _ _) (fun b hb e => by have := hfr b hb; have := HRL.out; omega)
        · exact fun b hb => Nat.le_trans HMK.out.size (hfr b hb)
        · exact (HMK.out.trans (Marks.of_below _ hX)).trans (mks_scs (S := fun b => b = rb) rfl _ _ _)
      · intro vals vs X hK hvs
        simp only [RY.putAll, Act.put, List.setIfInBounds_toArray, List.set_cons_zero, List.set_cons_succ]
        generalize vs 13 = s13
        generalize vs 14 = s14
        generalize vs 15 = s15
        generalize vs 16 = s16
        generalize vs 17 = s17
        generalize vs 18 = s18
        generalize vs 19 = s19
        generalize vs 20 = s20
        generalize vs 21 = s21
        generalize vs 22 = s22
        generalize vs 23 = s23
        generalize vs 24 = s24
        generalize vs 25 = s25
        generalize vs 26 = s26
        clear hvs
        obtain ⟨ca, cc, F, hbx, hrp, hnd, hfr, hmk⟩ := hK
        have HX := uh (And.intro hbx (And.intro hrp (And.intro hnd (And.intro hfr hmk))))
        have HW3 : Hid (WBox (X.setCell ⟨rb, 2, none⟩ (.int .i64 ((i : Int) + 1))) rb 79 [mv, .slice (some ⟨p, o, none⟩) ls.length lc, .int .i64 ((i : Int) + 1), .slice ca (Pl.cutWs x).length cc, .bool (Pl.cutBad x), bv, .int .i64 op]) := hbx.set 2 _ (by simp)
        have HM3 : Hid (Marks (fun b => b = rb) X (X.setCell ⟨rb, 2, none⟩ (.int .i64 ((i : Int) + 1)))) := Marks.sc (S := fun b => b = rb) X rfl 2 _
        have HR3 : Hid (Rep (X.setCell ⟨rb, 2, none⟩ (.int .i64 ((i : Int) + 1))) false shTxs F [.row (Pl.cutWs x).length (txD (Pl.cutWs x))] [.slice ca (Pl.cutWs x).length cc]) := hrp.keep HM3.out (fun b hb e => by have := hfr b hb; have := HRW.out; omega)
        have c2 := hbx.get 2 _ rfl
        have cl := hbx.own.lt
        have cf := hbx.own.frozen 2
        have hwi : IntKind.i64.wrap ((i : Int) + 1) = (i : Int) + 1 := wrapI _ (by omega) (by omega)
        obtain ⟨Y, hY⟩ : ∃ Y, Y = X.setCell ⟨rb, 2, none⟩ (.int .i64 ((i : Int) + 1)) := ⟨_, rfl⟩
        rw [← hY] at HW3 HM3 HR3
        clear hbx hrp hnd hfr hmk
        go_upto_region 4 with fail
        rw [← hY]
        clear hY c2 cl cf
        have d3 := HW3.out.get 3 _ rfl
        have d4 := HW3.out.get 4 _ rfl
        have dl := HW3.out.own.lt
        have HMK2 : Hid (Marks (fun b => b = rb) w Y) := HX.out.2.2.2.2.trans HM3.out
        have HFR : Hid (F.Nodup ∧ ∀ b ∈ F, w.heap.size ≤ b) := ⟨HX.out.2.2.1, HX.out.2.2.2.1⟩
        obtain ⟨n, hn⟩ : ∃ n, n = (Pl.cutWs x).length := ⟨_, rfl⟩
        obtain ⟨bad, hbad⟩ : ∃ bad, bad = Pl.cutBad x := ⟨_, rfl⟩
        rw [← hn] at HW3 HR3 d3
        rw [← hbad] at HW3 d4
        have HNB := uh (And.intro hn hbad)
        clear hn hbad HX
        cases bad
        · by_cases hn0 : n = 0
          · have d5 : ¬ ((0 : Int) < (n : Int)) := by omega
            have HBL2 : Hid (Pl.blank ls k (i + 1)) := HBLK.out.step (by rw [← HXE.out]; exact Pl.cut_blank (by rw [← HNB.out.1]; exact hn0) HNB.out.2.symm)
            go_wp2
            go_roundw
            case rel => exact ⟨rfl, i + 1, _, _, by omega, by omega, HBL2.out, HW3.out, HMK2.out⟩
            case measure =>
              rw [rdAt_eq HW3.out, rdAt_eq HRDO.out]
              omega
          · have d5 : ((0 : Int) < (n : Int)) := by omega
            go_wp2
            go_ret
            refine Or.inl ⟨i, by omega, by omega, HBLK.out, rfl, ca, cc, F, ?_, ?_, HFR.out.1, HFR.out.2, ?_, HMK2.out⟩
            · have q := HW3.out; rw [HNB.out.1, HNB.out.2, HXE.out] at q; exact q
            · have q := HR3.out; rw [HNB.out.1, HXE.out] at q; exact q
            · exact Or.inr (by rw [← HXE.out, ← HNB.out.1]; exact hn0)
        · go_wp2
          go_ret
          refine Or.inl ⟨i, by omega, by omega, HBLK.out, rfl, ca, cc, F, ?_, ?_, HFR.out.1, HFR.out.2, ?_, HMK2.out⟩
          · have q := HW3.out; rw [HNB.out.1, HNB.out.2, HXE.out] at q; exact q
          · have q := HR3.out; rw [HNB.out.1, HXE.out] at q; exact q
          · exact Or.inl (by rw [← HXE.out, ← HNB.out.2])


end Go.Proofs.YtdllbcafbfkngaaGreatDoor
