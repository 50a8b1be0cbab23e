/-
  Texts cut at newlines: the program (strings.Split at one byte).
-/
import Derived.Lib.Bytealg
import Derived.Lib.IndexLaws
import Derived.Test.YteemfpocmmainaaDoorERo
import Derived.Test.YteemfpocmmainaaDoorESd
import Derived.Test.YteemfpocmmainaaDoorESt
import Derived.Test.YteemfpocmmainaaDoorEBy
namespace Go.Proofs.YteemfpocmmainaaDoor
open Go.RowKit Go.Deep

namespace Pl
def linA (acc : List UInt8) : List UInt8 → List (List UInt8)
  | [] => if acc.isEmpty then [] else [acc]
  | c :: l => if c.toNat = 10 then acc :: linA [] l else linA (acc ++ [c]) l
def linL (s : ByteArray) : List ByteArray := (linA [] s.data.toList).map fun x => ⟨x.toArray⟩
/-- The rest of a text that is cut, from k on, the last cut having been at f. -/
def linR (s : ByteArray) (f k : Nat) : List ByteArray := (linA ((s.data.toList.drop f).take (k - f)) (s.data.toList.drop k)).map fun x => ⟨x.toArray⟩
theorem linR_start (s : ByteArray) : linR s 0 0 = linL s := by simp [linR, linL]
theorem linR_cut (s : ByteArray) (f k : Nat) (h : k < s.size) (hc : s[k].toNat = 10) : linR s f k = s.extract f k :: linR s (k + 1) (k + 1) := by
  rw [linR, drop_at s k h, linA, if_pos hc, List.map_cons, ← ext_list, back, linR]
  simp
theorem linR_on (s : ByteArray) (f k : Nat) (hf : f ≤ k) (h : k < s.size) (hc : s[k].toNat ≠ 10) : linR s f k = linR s f (k + 1) := by
  rw [linR, drop_at s k h, linA, if_neg hc, linR]
  congr 2
  have e : k + 1 - f = (k - f) + 1 := by omega
  have hl : k - f < (s.data.toList.drop f).length := by rw [drop_len]; omega
  rw [e, List.take_succ_eq_append_getElem hl]
  congr 2
  rw [List.getElem_drop]
  have : f + (k - f) = k := by omega
  simp only [this]; rfl
theorem linR_end (s : ByteArray) (f : Nat) (hf : f < s.size) : linR s f s.size = [s.extract f s.size] := by
  have e : s.data.toList.drop s.size = [] := List.drop_of_length_le (by rw [len_data]; exact Nat.le_refl _)
  have hne : ((s.data.toList.drop f).take (s.size - f)).isEmpty = false := by
    rw [List.isEmpty_eq_false_iff, ← List.length_pos_iff, List.length_take, drop_len]
    omega
  rw [linR, e, linA, hne]
  show List.map _ [_] = _
  rw [List.map_cons, List.map_nil, ← ext_list, back]
theorem linR_none (s : ByteArray) (f : Nat) (hf : s.size ≤ f) : linR s f s.size = [] := by
  have e : s.data.toList.drop s.size = [] := List.drop_of_length_le (by rw [len_data]; exact Nat.le_refl _)
  have e2 : s.data.toList.drop f = [] := List.drop_of_length_le (by rw [len_data]; exact hf)
  rw [linR, e, e2, linA]
  simp
end Pl

end Go.Proofs.YteemfpocmmainaaDoor

namespace Go.Proofs.YteemfpocmmainaaDoor
open Go.RowKit Go.Deep

namespace Pl
def spA (acc : List UInt8) : List UInt8 → List (List UInt8)
  | [] => [acc]
  | c :: l => if c.toNat = 10 then acc :: spA [] l else spA (acc ++ [c]) l
def spS (s : ByteArray) : List ByteArray := (spA [] s.data.toList).map fun x => ⟨x.toArray⟩
theorem nl_iff (c : UInt8) : (c == (10 : UInt8)) = decide (c.toNat = 10) := by
  rw [Bool.eq_iff_iff, beq_iff_eq, decide_eq_true_iff]
  exact ⟨fun h => by rw [h]; rfl, fun h => UInt8.toNat_inj.1 h⟩
theorem spA_none : ∀ (l acc : List UInt8), Lib.indexByte l 10 = -1 → spA acc l = [acc ++ l]
  | [], acc, _ => by simp [spA]
  | c :: l, acc, h => by
    unfold Lib.indexByte at h
    rw [nl_iff] at h
    by_cases hc : c.toNat = 10
    · rw [decide_eq_true hc] at h; simp at h
    · rw [decide_eq_false hc] at h
      simp only [Bool.false_eq_true, if_false] at h
      have h' : Lib.indexByte l 10 = -1 := by
        have := Lib.indexByte_ge l 10
        split at h
        · rename_i e; exact beq_iff_eq.1 e
        · omega
      rw [spA, if_neg hc, spA_none l _ h']; simp
theorem spA_some : ∀ (l acc : List UInt8) (m : Nat), Lib.indexByte l 10 = (m : Nat) → m < l.length ∧ spA acc l = (acc ++ l.take m) :: spA [] (l.drop (m + 1)) ∧ l.count 10 = (l.drop (m + 1)).count 10 + 1
  | [], _, m, h => by simp only [Lib.indexByte] at h; omega
  | c :: l, acc, m, h => by
    unfold Lib.indexByte at h
    rw [nl_iff] at h
    by_cases hc : c.toNat = 10
    · rw [decide_eq_true hc] at h
      simp only [if_true] at h
      have hm : m = 0 := by omega
      subst hm
      have e : c = 10 := UInt8.toNat_inj.1 hc
      refine ⟨by simp, ?_, ?_⟩
      · rw [spA, if_pos hc]; simp
      · rw [e]; simp
    · rw [decide_eq_false hc] at h
      simp only [Bool.false_eq_true, if_false] at h
      split at h
      · omega
      · rename_i hne
        obtain ⟨k, rfl⟩ : ∃ k, m = k + 1 := ⟨m - 1, by
          have := Lib.indexByte_ge l 10
          have h3 : Lib.indexByte l 10 ≠ -1 := fun e => hne (by rw [e]; rfl)
          omega⟩
        obtain ⟨h1, h2, h3⟩ := spA_some l (acc ++ [c]) k (by omega)
        have hcc : (c == (10 : UInt8)) = false := by rw [nl_iff, decide_eq_false hc]
        refine ⟨by simp; omega, ?_, ?_⟩
        · rw [spA, if_neg hc, h2]; simp
        · rw [List.count_cons, hcc, h3]; simp
theorem spA_len : ∀ (l acc : List UInt8), (spA acc l).length = l.count 10 + 1
  | [], _ => rfl
  | c :: l, acc => by
    unfold spA
    rw [List.count_cons, nl_iff]
    by_cases hc : c.toNat = 10
    · rw [if_pos hc, decide_eq_true hc, List.length_cons, spA_len l]; simp
    · rw [if_neg hc, decide_eq_false hc, spA_len l]; simp
theorem spS_len (s : ByteArray) : (spS s).length = s.data.toList.count 10 + 1 := by rw [spS, List.length_map, spA_len]
theorem ix_pos : ∀ l : List UInt8, 0 < l.count 10 → ∃ m : Nat, Lib.indexByte l 10 = (m : Nat) := fun l h => by
  have := Lib.indexByte_ge l 10
  by_cases e : Lib.indexByte l 10 = -1
  · have h2 := spA_none l [] e
    have h3 := spA_len l []
    rw [h2] at h3
    simp at h3; omega
  · exact ⟨(Lib.indexByte l 10).toNat, by omega⟩
end Pl

set_option maxRecDepth 100000 in
set_option maxHeartbeats 4000000 in
theorem indexByteN (s : ByteArray) (c : UInt8) (w : World) :
    Calls Tryd.prog 92 #[.string s, .int .u8 c.toNat] w fun e w' => e = .returned (.int .i64 (Lib.indexByte s.data.toList c)) ∧ w = w' := by
  have hc : ((c.toNat : Int)).toNat.toUInt8 = c := by simp
  have HE := uh hc
  clear hc
  go_enter Tryd.func92, Tryd.ntmps92
  go_wp2
  rw [run_callFunc_extern Tryd.func97 (by kernel_rfl) (by kernel_rfl) (by kernel_rfl) (e := Extern.BytealgIndexByte.indexByte) (by kernel_rfl), Lib.run_indexByteString]
  simp only [Result.andThen]
  rw [Oper.upon_value]
  rw [HE.out]
  go_wp2
  go_ret
  exact ⟨rfl, rfl⟩
set_option maxRecDepth 100000 in
set_option maxHeartbeats 4000000 in
theorem indexNl (s : ByteArray) (w : World) :
    Calls Tryd.prog 70 #[.string s, .string { data := #[10] }] w fun e w' => e = .returned (.int .i64 (Lib.indexByte s.data.toList 10)) ∧ w = w' := by
  obtain ⟨R, hR⟩ : ∃ R, R = Lib.indexByte s.data.toList 10 := ⟨_, rfl⟩
  have HC0 := uh (indexByteN s 10 w)
  rw [← hR] at HC0
  have HC : Hid (Calls Tryd.prog 92 #[.string s, .int .u8 10] w fun e w' => e = .returned (.int .i64 R) ∧ w = w') := HC0.out
  have HR := uh hR
  rw [← hR]
  clear hR HC0
  go_enter Tryd.func70, Tryd.ntmps70
  cases hq : ([10] == s.toList)
  · go_wp2_with (first | (go_at_call 85; go_in) | (go_at_call 92; refine HC.out.mono ?_; rintro e w' ⟨rfl, rfl⟩))
    go_ret
    exact ⟨rfl, rfl⟩
  · have HE : Hid (R = 0) := by
      show R = 0
      have e := beq_iff_eq.1 hq
      rw [HR.out, ← Pl.tl, ← e]; rfl
    go_wp2_with (first | (go_at_call 85; go_in) | (go_at_call 92; refine HC.out.mono ?_; rintro e w' ⟨rfl, rfl⟩))
    go_ret
    exact ⟨Pl.ret_int HE.out.symm, rfl⟩
set_option maxRecDepth 100000 in
set_option maxHeartbeats 4000000 in
theorem countNl (s : ByteArray) (w : World) :
    Calls Tryd.prog 69 #[.string s, .string { data := #[10] }] w fun e w' => e = .returned (.int .i64 (s.data.toList.count 10 : Nat)) ∧ w = w' := by
  have HE : Hid ((((({ data := #[10] } : ByteArray)[0]'(by decide)).toNat : Int)).toNat.toUInt8 = 10) := rfl
  go_enter Tryd.func69, Tryd.ntmps69
  go_wp2
  rw [run_callFunc_extern Tryd.func84 (by kernel_rfl) (by kernel_rfl) (by kernel_rfl) (e := Extern.BytealgCount.count) (by kernel_rfl), Lib.run_countString]
  simp only [Result.andThen]
  rw [Oper.upon_value]
  rw [HE.out]
  go_wp2
  go_ret
  exact ⟨rfl, rfl⟩

set_option maxRecDepth 8000 in
set_option maxHeartbeats 8000000 in
theorem genSplitI (s : ByteArray) (w : World) (hs : s.size ≤ 1048000) :
    Calls Tryd.prog 54 #[.string s, .string { data := #[10] }, .int .i64 0, .int .i64 (-1)] w fun e w' => ∃ g, e = .returned (.slice (some ⟨g, 0, none⟩) (Pl.spS s).length (Pl.spS s).length) ∧ w.heap.size ≤ g ∧ WBox w' g 9 ((Pl.spS s).map .string) ∧ Below w.heap.size w w' := by
  obtain ⟨n, hn⟩ : ∃ n, n = s.data.toList.count 10 := ⟨_, rfl⟩
  have hln : (Pl.spS s).length = n + 1 := by rw [Pl.spS_len, hn]
  have hns : n ≤ s.size := by rw [hn, ← Pl.len_data]; exact List.count_le_length
  have HC := uh (countNl s w)
  rw [← hn] at HC
  have HN := uh hn
  have HLN := uh hln
  rw [hln]
  clear hln hn
  obtain ⟨zs, hzs, hmk⟩ := umakeT1 (n + 1) (by omega)
  have hmin : min ((n : Int) + 1) ((s.size : Int) + 1) = ((n + 1 : Nat) : Int) := by omega
  have hmk' := hmk w
  go_enter Tryd.func54, Tryd.ntmps54
  go_upto_region 8 with (go_at_call 69; refine HC.out.mono ?_; rintro e w' ⟨rfl, rfl⟩)
  have HB : Hid (Below w.heap.size w (w.alloc (.cells zs 9))) := blw_alloc (Below.refl _ _) _
  obtain ⟨g, hg⟩ : ∃ g, g = w.heap.size := ⟨_, rfl⟩
  have HZ : Hid (w.heap.size ≤ g) := by show _ ≤ _; omega
  have HBX : Hid (WBox (w.alloc (.cells zs 9)) g 9 zs.toList) := by
    show WBox _ _ _ _
    have q := WBox.new w zs.toList 9 g hg
    simpa using q
  have HZL : Hid (zs.toList.length = n + 1) := by show _ = _; rw [Array.length_toList, hzs, Nat.mul_one]
  obtain ⟨wa, hwa⟩ : ∃ wa, wa = w.alloc (.cells zs 9) := ⟨_, rfl⟩
  rw [← hwa] at hmk' HB HBX
  rw [← hg, show ((n + 1 : Nat) : Int) = (n : Int) + 1 by omega] at hmk'
  go_upto_region 11 with fail
  rw [← hwa, ← hg]
  clear hmk' hmk hmin
  clear hwa hg
  go_loopw [0, 10] (fun v0 v10 wr => ∃ (i : Nat) (r : ByteArray) (cs : List Value), v0 = .string r ∧ v10 = .int .i64 i ∧ i ≤ n ∧ r.size ≤ s.size ∧ r.data.toList.count 10 + i = n ∧ cs.length = n + 1 ∧ WBox wr g 9 cs ∧ (∃ done : List ByteArray, done.length = i ∧ cs.take i = done.map .string ∧ Pl.spS s = done ++ Pl.spS r) ∧ Below w.heap.size w wr) (fun _ i _ => n - (intOf i).toNat)
  case atStart => exact ⟨0, s, zs.toList, rfl, rfl, Nat.zero_le _, Nat.le_refl _, HN.out.symm, HZL.out, HBX.out, ⟨[], rfl, rfl, rfl⟩, HB.out⟩
  case round =>
    obtain ⟨i, r, cs, rfl, rfl, hi, hr, hcn, hcl, hbx, ⟨done, hd, htk, hsp⟩, hW⟩ := hrel
    have HBXR := uh hbx
    have HW := uh hW
    have HD := uh (And.intro hd (And.intro htk hsp))
    have HCN := uh hcn
    have HCL := uh hcl
    have hlt : i < cs.length := by omega
    obtain ⟨y, hy⟩ : ∃ y, cs[i]? = some y := ⟨cs[i], by simp [hlt]⟩
    have hcell := hbx.get i y hy
    have hgl := hbx.own.lt
    have hfz := hbx.own.frozen i
    have hwi : IntKind.i64.wrap ((i : Int) + 1) = (i : Int) + 1 := by simp [IntKind.wrap, IntKind.bits, IntKind.signed]; omega
    clear hbx hW hd htk hsp hcn hcl
    by_cases hin : i < n
    · obtain ⟨m, hm⟩ := Pl.ix_pos r.data.toList (by have := HCN.out; omega)
      obtain ⟨hml, hsa, hct⟩ := Pl.spA_some r.data.toList [] m hm
      have HIX := uh (fun W => indexNl r W)
      rw [hm] at HIX
      rw [Pl.len_data] at hml
      have HSA : Hid (Pl.spS r = r.extract 0 m :: Pl.spS (r.extract (m + 1) r.size)) := by
        show _ = _
        unfold Pl.spS
        rw [hsa, List.map_cons, List.nil_append]
        congr 1
        · rw [← Pl.back (r.extract 0 m), Pl.ext_list]; simp
        · rw [Pl.ext_list]
          congr 2
          rw [List.take_of_length_le (by rw [List.length_drop, Pl.len_data]; omega)]
      have HCT : Hid ((r.extract (m + 1) r.size).data.toList.count 10 + (i + 1) = n) := by
        show _ = _
        rw [Pl.ext_list, List.take_of_length_le (by rw [List.length_drop, Pl.len_data]; omega)]
        have := HCN.out; omega
      have hm0 : (0 : Int) ≤ (m : Int) := by omega
      have hm1 : (m : Int) ≤ (r.size : Int) := by omega
      have hm2 : (m : Int) + 1 ≤ (r.size : Int) := by omega
      have hm3 : ¬ ((m : Int) < 0) := by omega
      have hm4 : (0 : Int) ≤ (m : Int) + 1 := by omega
      have hi0 : (0 : Int) ≤ (i : Int) := by omega
      have hi1 : (i : Int) < ((n + 1 : Nat) : Int) := by omega
      have hrs : r.size ≤ 1048000 := by omega
      clear hm hsa hct
      go_wp2_with (go_at_call 70; refine (HIX.out _).mono ?_; rintro e w' ⟨rfl, rfl⟩)
      go_roundw
      case rel =>
        refine ⟨i + 1, r.extract (m + 1) r.size, cs.set i (.string (r.extract 0 m)), rfl, by go_num, by omega, ?_, HCT.out, ?_, HBXR.out.set i _ hlt, ⟨done ++ [r.extract 0 m], ?_, ?_, ?_⟩, ?_⟩
        · rw [ByteArray.size_extract]; omega
        · rw [List.length_set]; exact HCL.out
        · rw [List.length_append, HD.out.1]; rfl
        · have q : (cs.set i (.string (r.extract 0 m))).take (i + 1) = cs.take i ++ [.string (r.extract 0 m)] := by
            rw [List.take_succ_eq_append_getElem (by rw [List.length_set]; exact hlt), List.take_set_of_le (Nat.le_refl _), List.getElem_set_self]
          rw [q, HD.out.2.1, List.map_append]; rfl
        · rw [HD.out.2.2, HSA.out, List.append_assoc]; rfl
        · exact HW.out.setCell (p := ⟨g, i, none⟩) HZ.out _
      case measure => simp [intOf]; omega
    · have hin2 : i = n := by omega
      subst hin2
      have hix : Lib.indexByte r.data.toList 10 = -1 := by
        have h0 : r.data.toList.count 10 = 0 := by have := HCN.out; omega
        by_cases q : Lib.indexByte r.data.toList 10 = -1
        · exact q
        · have := Lib.indexByte_ge r.data.toList 10
          obtain ⟨_, _, h3⟩ := Pl.spA_some r.data.toList [] (Lib.indexByte r.data.toList 10).toNat (by omega)
          omega
      have HSA : Hid (Pl.spS r = [r]) := by
        show _ = _
        unfold Pl.spS
        rw [Pl.spA_none _ _ hix, List.nil_append, List.map_cons, List.map_nil, Pl.back]
      have hi0 : (0 : Int) ≤ (i : Int) := by omega
      have hi1 : (i : Int) < ((i + 1 : Nat) : Int) := by omega
      have HF : Hid (WBox (wr.setCell ⟨g, i, none⟩ (.string r)) g 9 ((Pl.spS s).map .string)) := by
        show WBox _ _ _ _
        have q := HBXR.out.set i (.string r) hlt
        have e : cs.set i (.string r) = (Pl.spS s).map .string := by
          rw [HD.out.2.2, HSA.out, List.map_append, ← HD.out.2.1]
          apply List.ext_getElem?
          intro j
          rw [List.getElem?_set]
          have hcl := HCL.out
          have htl : (cs.take i).length = i := by rw [List.length_take]; omega
          by_cases hj : i = j
          · subst hj
            rw [if_pos rfl, if_pos hlt, List.getElem?_append_right (by omega), htl, Nat.sub_self]; rfl
          · rw [if_neg hj]
            by_cases hj2 : j < i
            · rw [List.getElem?_append_left (by omega), List.getElem?_take, if_pos hj2]
            · rw [List.getElem?_append_right (by omega), htl, List.getElem?_eq_none (by omega)]
              rw [List.getElem?_eq_none (by simp; omega)]
        rw [← e]; exact q
      clear hix
      go_wp2
      go_ret
      exact ⟨g, rfl, HZ.out, HF.out, HW.out.setCell (p := ⟨g, i, none⟩) HZ.out _⟩

set_option maxHeartbeats 2000000 in
theorem splitI (s : ByteArray) (w : World) (hs : s.size ≤ 1048000) :
    Calls Tryd.prog 32 #[.string s, .string { data := #[10] }] w fun e w' => ∃ g, e = .returned (.slice (some ⟨g, 0, none⟩) (Pl.spS s).length (Pl.spS s).length) ∧ w.heap.size ≤ g ∧ WBox w' g 9 ((Pl.spS s).map .string) ∧ Below w.heap.size w w' := by
  have HC := uh (genSplitI s w hs)
  go_enter Tryd.func32, Tryd.ntmps32
  go_wp2_with (go_at_call 54; refine HC.out.mono ?_; rintro e w' ⟨g, rfl, h1, h2, h3⟩)
  go_ret
  exact ⟨g, rfl, h1, h2, h3⟩

namespace Pl
theorem spA_ne : ∀ (l acc : List UInt8), spA acc l ≠ []
  | [], _ => by simp [spA]
  | c :: l, acc => by
    unfold spA
    split
    · simp
    · exact spA_ne l _
/-- A text's lines are its pieces, but for a last one that is empty. -/
theorem lin_sp : ∀ (l acc : List UInt8), linA acc l = if ((spA acc l).getLast (spA_ne l acc)).isEmpty then (spA acc l).dropLast else spA acc l
  | [], acc => by
    simp only [linA, spA, List.getLast_singleton, List.dropLast_singleton]
  | c :: l, acc => by
    by_cases hc : c.toNat = 10
    · have e : spA acc (c :: l) = acc :: spA [] l := by rw [spA, if_pos hc]
      have ih := lin_sp l []
      have hne := spA_ne l []
      rw [linA, if_pos hc, ih]
      simp only [e]
      rw [List.getLast_cons hne, List.dropLast_cons_of_ne_nil hne]
      split <;> rfl
    · have e : spA acc (c :: l) = spA (acc ++ [c]) l := by rw [spA, if_neg hc]
      rw [linA, if_neg hc, lin_sp l (acc ++ [c])]
      simp only [e]
theorem lin_cases (s : ByteArray) : ∃ m, (spS s).length = m + 1 ∧ (((spS s).getD m txNo).size = 0 → linL s = (spS s).take m) ∧ (((spS s).getD m txNo).size ≠ 0 → linL s = spS s) := by
  have hne := spA_ne s.data.toList []
  have hl : 0 < (spA [] s.data.toList).length := List.length_pos_iff.2 hne
  refine ⟨(spA [] s.data.toList).length - 1, by rw [spS, List.length_map]; omega, ?_, ?_⟩
  all_goals
    intro h
    have e : (spS s).getD ((spA [] s.data.toList).length - 1) txNo = ⟨((spA [] s.data.toList).getLast hne).toArray⟩ := by
      rw [spS, List.getD_eq_getElem?_getD, List.getElem?_map, List.getLast_eq_getElem, List.getElem?_eq_getElem (by omega)]; rfl
    rw [e] at h
    unfold linL
    rw [lin_sp]
  · have hz : ((spA [] s.data.toList).getLast hne).isEmpty = true := by
      have hh : ((spA [] s.data.toList).getLast hne).length = 0 := h
      rw [List.isEmpty_iff, ← List.length_eq_zero_iff]; exact hh
    rw [if_pos hz, spS, List.dropLast_eq_take, List.map_take]
  · have hz : ((spA [] s.data.toList).getLast hne).isEmpty = false := by
      have hh : ((spA [] s.data.toList).getLast hne).length ≠ 0 := h
      rw [List.isEmpty_eq_false_iff]; intro q; rw [q] at hh; exact hh rfl
    rw [if_neg (by rw [hz]; simp)]; rfl
theorem ret_ls {p : Option Addr} {a b c : Nat} {z : Int} (h : b = a) (hz : z = (b : Int)) : Ending.returned (.tuple #[.slice p a c, .bool (decide (z ≤ 400))]) = .returned (.tuple #[.slice p b c, .bool (decide (b ≤ 400))]) := by
  subst h; subst hz
  congr 6
  rw [Bool.eq_iff_iff, decide_eq_true_iff, decide_eq_true_iff]
  omega
end Pl
theorem rawTxs (W : World) : ∀ xs : List ByteArray, Raw W (reps xs.length [.s]) (txD xs) (xs.map .string)
  | [] => .nil
  | x :: xs => by rw [List.length_cons, reps_succ]; exact .s x (rawTxs W xs)
/-- A block of texts, or its head, is a list of texts that can be read. -/
theorem raw_of_box {W : World} {g m c : Nat} {L : List ByteArray} (h : WBox W g 9 (L.map .string)) (hm : m ≤ L.length) (hl : L.length ≤ c) (hc : c ≤ 1048576) : Raw W shTxs [.row m (txD (L.take m))] [.slice (some ⟨g, 0, none⟩) m c] := by
  have e : (L.take m).length = m := by rw [List.length_take]; omega
  have q := rawTxs W (L.take m)
  rw [e] at q
  refine .row 9 [.s] g 0 m c _ _ h.own.lt ⟨by unfold maxLen; omega, by omega⟩ ?_ q .nil
  intro j v hv
  refine h.at_ j v ?_
  rw [List.getElem?_map, List.getElem?_take] at hv
  rw [List.getElem?_map]
  split at hv
  · exact hv
  · cases hv
/-- What 'sheetLines' answers. -/
def LnAns (s : ByteArray) (e : Ending) (W : World) : Prop :=
  if 20000 < s.size then e = .returned (.tuple #[.slice none 0 0, .bool false])
  else ∃ g c, e = .returned (.tuple #[.slice (some ⟨g, 0, none⟩) (Pl.linL s).length c, .bool (decide ((Pl.linL s).length ≤ 400))]) ∧ Raw W shTxs [.row (Pl.linL s).length (txD (Pl.linL s))] [.slice (some ⟨g, 0, none⟩) (Pl.linL s).length c]

set_option maxRecDepth 8000 in
set_option maxHeartbeats 4000000 in
theorem sheetLinesI (s : ByteArray) (w : World) (hs : s.size ≤ maxLen) :
    Calls Tryd.prog 16 #[.string s] w fun e w' => LnAns s e w' ∧ Below w.heap.size w w' := by
  unfold LnAns
  by_cases h0 : 20000 < s.size
  · have d0 : ((20000 : Int) < (s.size : Int)) := by omega
    simp only [if_pos h0]
    unfold maxLen at hs
    go_enter Tryd.func16, Tryd.ntmps16
    go_wp2
    go_ret2
    exact ⟨rfl, Below.refl _ _⟩
  simp only [if_neg h0]
  have d0 : ¬ ((20000 : Int) < (s.size : Int)) := by omega
  have HC := uh (splitI s w (by omega))
  unfold maxLen at hs
  obtain ⟨m, hm, hz, hnz⟩ := Pl.lin_cases s
  have HZ := uh hz
  have HNZ := uh hnz
  have HM := uh hm
  have hmb : m ≤ 20000 := by
    have h1 := Pl.spS_len s
    have h2 : s.data.toList.count 10 ≤ s.data.toList.length := List.count_le_length
    rw [Pl.len_data] at h2
    omega
  clear hz hnz
  rw [hm] at HC
  clear hm
  go_enter Tryd.func16, Tryd.ntmps16
  go_wp2_with fail
  refine HC.out.mono ?_
  rintro e w1 ⟨g, rfl, hg, hbx, hb⟩
  have HBX := uh hbx
  have HB := uh hb
  obtain ⟨x, hx⟩ : ∃ x, x = (Pl.spS s).getD m Pl.txNo := ⟨_, rfl⟩
  rw [← hx] at HZ HNZ
  have hml : m < (Pl.spS s).length := by have := HM.out; omega
  have hc : w1.cell? ⟨g, m, none⟩ = some (.string x) := by
    refine hbx.get m _ ?_
    rw [List.getElem?_map, hx, List.getD_eq_getElem?_getD, List.getElem?_eq_getElem hml]; rfl
  have hgl := hbx.own.lt
  clear hbx hb HC hx
  have hm0 : (0 : Int) ≤ (m : Int) := by omega
  have hm1 : (m : Int) < ((m + 1 : Nat) : Int) := by omega
  by_cases hx0 : x.size = 0
  · have hxe : x = ⟨#[]⟩ := by
      cases x with
      | mk a => have : a.size = 0 := hx0; rw [Array.size_eq_zero_iff] at this; rw [this]
    have HL := uh (HZ.out hx0)
    subst hxe
    have HLE : Hid ((Pl.linL s).length = m) := by show _ = _; rw [HL.out, List.length_take]; omega
    have HRW : Hid (Raw w1 shTxs [.row (Pl.linL s).length (txD (Pl.linL s))] [.slice (some ⟨g, 0, none⟩) (Pl.linL s).length (m + 1)]) := by
      show Raw _ _ _ _
      rw [HLE.out, HL.out]
      exact raw_of_box HBX.out (by omega) (by have := HM.out; omega) (by omega)
    clear hx0
    go_wp2
    go_ret2
    exact ⟨⟨g, m + 1, Pl.ret_ls HLE.out (by rw [HLE.out]; try rfl), HRW.out⟩, HB.out⟩
  · have HL := uh (HNZ.out hx0)
    have hxe : (x.toList == []) = false := by
      rw [beq_eq_false_iff_ne, Pl.tl]
      intro q
      apply hx0
      have := congrArg List.length q
      simpa using this
    have HLE : Hid ((Pl.linL s).length = m + 1) := by show _ = _; rw [HL.out]; exact HM.out
    have HRW : Hid (Raw w1 shTxs [.row (Pl.linL s).length (txD (Pl.linL s))] [.slice (some ⟨g, 0, none⟩) (Pl.linL s).length (m + 1)]) := by
      show Raw _ _ _ _
      have q := raw_of_box (m := m + 1) (c := m + 1) HBX.out (by omega) (by have := HM.out; omega) (by omega)
      rw [List.take_of_length_le (by have := HM.out; omega)] at q
      rw [HLE.out, HL.out]
      exact q
    clear hx0
    go_wp2
    go_ret2
    exact ⟨⟨g, m + 1, Pl.ret_ls HLE.out (by rw [HLE.out]; try rfl), HRW.out⟩, HB.out⟩

end Go.Proofs.YteemfpocmmainaaDoor
