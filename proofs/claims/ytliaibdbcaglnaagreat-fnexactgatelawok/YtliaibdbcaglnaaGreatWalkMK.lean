/-
  Walks: the specification: places of fields; what is ready.
-/
import Derived.Test.YtliaibdbcaglnaaGreatWalkMJ
import Derived.Test.YtliaibdbcaglnaaGreatWalkQ
import Derived.Test.YtliaibdbcaglnaaGreatWalkD
namespace Go.Proofs.YtliaibdbcaglnaaGreat
open Go.RowKit Go.Deep

set_option maxHeartbeats 1000000 in
theorem l3Field (B : Nat) (fs : List Fld) (k : ByteArray) (w : World) (h : FldsIn w B fs) :
    Calls Tryz.prog 114 #[.slice (some ⟨B, 0, none⟩) fs.length fs.length, .string k] w fun e w' => e = .returned (.int .i64 (if nameAt fs k < fs.length then (nameAt fs k : Int) else -1)) ∧ w = w' := by
  have hl := h.len
  have HH : Hid (FldsIn w B fs) := h
  obtain ⟨R, hR⟩ : ∃ R : Int, R = (if nameAt fs k < fs.length then (nameAt fs k : Int) else -1) := ⟨_, rfl⟩
  rw [← hR]
  have HR : Hid (R = (if nameAt fs k < fs.length then (nameAt fs k : Int) else -1)) := hR
  have hB := h.lt
  clear h hR
  go_enter Tryz.func114, Tryz.ntmps114
  go_wp2
  go_loop [5] (fun i => ∃ q : Nat, q ≤ fs.length ∧ i = .int .i64 q ∧ q ≤ nameAt fs k) (fun i => fs.length - (intOf i).toNat)
  case atStart => exact ⟨0, Nat.zero_le _, rfl, Nat.zero_le _⟩
  case round =>
    obtain ⟨q, hq, rfl, hno⟩ := hrel
    have HN : Hid (q ≤ nameAt fs k) := hno
    clear hno
    by_cases hlt : q < fs.length
    · obtain ⟨f, hff⟩ : ∃ f, f = fs.getD q Fld.none := ⟨_, rfl⟩
      obtain ⟨b, _, hf⟩ := HH.out.arg hlt hff
      have c0 := hf.c0
      clear hf
      cases ht : (f.nm.toList == k.toList)
      · have HM : Hid (q + 1 ≤ nameAt fs k) := nameAt_miss fs k q hlt HN.out (by rw [← hff]; exact ht)
        clear hff
        go_wp2
        go_round
        case rel => exact ⟨q + 1, by omega, by go_num, HM.out⟩
        case measure => simp [intOf]; omega
      · have HM : Hid (nameAt fs k = q) := nameAt_hit fs k q hlt HN.out (by rw [← hff]; exact ht)
        clear hff
        go_wp2
        go_ret
        exact ⟨Pl.ret_int (by rw [HR.out, HM.out, if_pos hlt]), rfl⟩
    · go_wp2
      go_ret
      exact ⟨Pl.ret_int (by rw [HR.out, if_neg (by have := HN.out; omega)]), rfl⟩

set_option maxHeartbeats 1000000 in
theorem l3Plain (B : Nat) (fs : List Fld) (k : ByteArray) (w : World) (h : FldsIn w B fs) :
    Calls Tryz.prog 112 #[.slice (some ⟨B, 0, none⟩) fs.length fs.length, .string k] w fun e w' => e = .returned (.bool (plainAt fs k)) ∧ w = w' := by
  have HH : Hid (FldsIn w B fs) := h
  have hl := h.len
  obtain ⟨R, hR⟩ : ∃ R, R = plainAt fs k := ⟨_, rfl⟩
  rw [← hR]
  have HR : Hid (R = plainAt fs k) := hR
  have hB := h.lt
  clear h hR
  go_enter Tryz.func112, Tryz.ntmps112
  go_wp2_with fail
  refine (l3Field B fs k w HH.out).mono ?_
  rintro e w2 ⟨rfl, rfl⟩
  by_cases hq : nameAt fs k < fs.length
  · rw [if_pos hq]
    obtain ⟨q, hqq⟩ : ∃ q, q = nameAt fs k := ⟨_, rfl⟩
    obtain ⟨f, hf⟩ : ∃ f, f = fs.getD q Fld.none := ⟨_, rfl⟩
    rw [← hqq] at hq ⊢
    obtain ⟨b, _, hfi⟩ := HH.out.arg hq hf
    have c1 := hfi.c1
    have HF : Hid (R = !decide (f.kind = 4)) := by show R = _; rw [HR.out]; unfold plainAt; rw [← hqq, ← hf]; simp [hq]
    clear hfi hf hqq
    by_cases h4 : f.kind = 4
    · have HP : Hid (R = false) := by show R = false; rw [HF.out]; simp [h4]
      go_wp2
      go_ret
      exact ⟨Pl.ret_bool HP.out.symm, rfl⟩
    · have HP : Hid (R = true) := by show R = true; rw [HF.out]; simp [h4]
      go_wp2
      go_ret
      exact ⟨Pl.ret_bool (by rw [HP.out]; simp [h4]), rfl⟩
  · rw [if_neg hq]
    have HP : Hid (R = false) := by show R = false; rw [HR.out]; unfold plainAt; simp [hq]
    go_wp2
    go_ret
    exact ⟨Pl.ret_bool HP.out.symm, rfl⟩

theorem specFitsF (f : Fld) (b : Nat) (v : ByteArray) (w : World) (hv : v.size ≤ maxLen) (h : FldArg w b f) :
    Calls Tryz.prog 113 #[.agg #[.string f.nm, .int .i64 f.kind, .int .i64 f.least, .int .i64 f.most, .slice (some ⟨b, 0, none⟩) f.words.length f.words.length, .string f.to, .int .i64 f.role, .bool f.must, .bool f.fixed, .string f.de, .string f.we], .string v] w
      fun e w' => e = .returned (.bool (fitB f v)) ∧ Below w.heap.size w w' :=
  specFits_any f.nm f.kind f.least f.most b 0 _ f.to f.role f.must f.fixed f.de f.we v f.words w hv h.lt (by have := h.small; unfold Fld.small at this; unfold maxLen; omega) h.cells

/-- The names of a row in memory: nil or a block. -/
def NamesAt (w : World) (v : Value) (l : List ByteArray) : Prop :=
  ∃ g c, v = .slice (some ⟨g, 0, none⟩) l.length c ∧ g < w.heap.size ∧ l.length ≤ 1048576 ∧ ∀ i, i < l.length → w.cell? ⟨g, i, none⟩ = some (.string (l.getD i ByteArray.empty))

theorem NamesAt.later {w w' : World} {v : Value} {l : List ByteArray} (h : NamesAt w v l) (hb : Below w.heap.size w w') : NamesAt w' v l := by
  obtain ⟨g, c, rfl, h1, h2, h3⟩ := h
  exact ⟨g, c, rfl, Nat.lt_of_lt_of_le h1 hb.size, h2, fun i hi => (hb.cell (p := ⟨g, i, none⟩) h1).trans (h3 i hi)⟩

theorem hasN (v : Value) (l : List ByteArray) (s : ByteArray) (w : World) (h : NamesAt w v l) :
    Calls Tryz.prog 115 #[v, .string s] w fun e w' => e = .returned (.bool (Pl.has l s)) ∧ w = w' := by
  obtain ⟨g, c, rfl, _, h2, h3⟩ := h
  exact l1Has_row g 0 c l s w (by unfold maxLen; omega) (fun i hi => by rw [Nat.zero_add]; exact h3 i hi)

def needN (row : List ByteArray) (k : ByteArray) : Bool := Pl.isEmp k || Pl.has row k
def readyN1 (K f : ByteArray) (row : List ByteArray) (m : Mnd) : Bool := !(m.kind.toList == K.toList && m.field.toList == f.toList) || (needN row m.whn && needN row m.frm)
def readyN (ms : List Mnd) (K f : ByteArray) (row : List ByteArray) : Bool := (List.range ms.length).all fun i => readyN1 K f row (ms.getD i Mnd.none)
def readyNTo (ms : List Mnd) (K f : ByteArray) (row : List ByteArray) (k : Nat) : Bool := (List.range k).all fun i => readyN1 K f row (ms.getD i Mnd.none)

set_option maxRecDepth 8000 in
set_option maxHeartbeats 4000000 in
theorem l3Ready (mb : Nat) (ms : List Mnd) (K f : ByteArray) (a : Option Addr) (n c : Nat) (row : List ByteArray) (w : World) (h : MndsIn w mb ms) (hr : NamesAt w (.slice a n c) row) :
    Calls Tryz.prog 116 #[.slice (some ⟨mb, 0, none⟩) ms.length ms.length, .string K, .string f, .slice a n c] w fun e w' => e = .returned (.bool (readyN ms K f row)) ∧ Below w.heap.size w w' := by
  have hl := h.len
  have HH : Hid (MndsIn w mb ms ∧ NamesAt w (.slice a n c) row) := ⟨h, hr⟩
  have hmb := h.lt
  clear h hr
  go_enter Tryz.func116, Tryz.ntmps116
  go_wp2
  go_loopw [9] (fun i wr => ∃ k : Nat, k ≤ ms.length ∧ i = .int .i64 k ∧ readyNTo ms K f row k = true ∧ Below w.heap.size w wr) (fun i _ => ms.length - (intOf i).toNat)
  case atStart => exact ⟨0, Nat.zero_le _, rfl, rfl, Below.refl _ _⟩
  case round =>
    obtain ⟨k, hk, rfl, hall, hW⟩ := hrel
    have HA : Hid (readyNTo ms K f row k = true) := hall
    have HW : Hid (Below w.heap.size w wr) := hW
    clear hall
    by_cases hlt : k < ms.length
    · have hmk := (HH.out.1.later hW).at_ k hlt
      obtain ⟨m, hmm⟩ : ∃ m, m = ms.getD k Mnd.none := ⟨_, rfl⟩
      rw [← hmm] at hmk
      have hmb2 : mb < wr.heap.size := Nat.lt_of_lt_of_le hmb hW.size
      obtain ⟨c0, c1, c2, c3, c4, c5, _⟩ := hmk
      have HT : Hid (readyN1 K f row (ms.getD k Mnd.none) = (!(m.kind.toList == K.toList && m.field.toList == f.toList) || ((m.whn.toList.isEmpty || Pl.has row m.whn) && (m.frm.toList.isEmpty || Pl.has row m.frm)))) := by rw [← hmm]; rfl
      have HS : Hid (readyN1 K f row (ms.getD k Mnd.none) = true → readyNTo ms K f row (k + 1) = true) := by
        intro h1; show readyNTo ms K f row (k + 1) = true; unfold readyNTo; rw [Pl.to_succ, h1]; have := HA.out; unfold readyNTo at this; rw [this]; rfl
      have HZ : Hid (readyN1 K f row (ms.getD k Mnd.none) = false → readyN ms K f row = false) := by
        intro h1; exact Pl.to_false _ _ k hlt h1
      have HC : Hid (∀ s W, Below wr.heap.size wr W → Calls Tryz.prog 115 #[.slice a n c, .string s] W fun e w' => e = .returned (.bool (Pl.has row s)) ∧ W = w') := fun s W hW' => hasN _ row s W (HH.out.2.later (blw_trans HW.out hW'))
      have hbx : Below wr.heap.size wr (wr.alloc (.cells #[.string m.kind, .string m.field, .string m.whn, .string m.is_, .string m.put, .string m.frm] 91)) := blw_alloc (Below.refl _ _) _
      have HBx : Hid (Below wr.heap.size wr (wr.alloc (.cells #[.string m.kind, .string m.field, .string m.whn, .string m.is_, .string m.put, .string m.frm] 91))) := hbx
      clear hmm hW hbx
      cases q0 : (m.kind.toList == K.toList)
      · have HR : Hid (readyNTo ms K f row (k + 1) = true) := HS.out (by rw [HT.out, q0]; rfl)
        go_wp2
        go_roundw
        case rel => exact ⟨k + 1, by omega, by go_num, HR.out, blw_trans HW.out HBx.out⟩
        case measure => simp [intOf]; omega
      cases q1 : (m.field.toList == f.toList)
      · have HR : Hid (readyNTo ms K f row (k + 1) = true) := HS.out (by rw [HT.out, q0, q1]; rfl)
        go_wp2
        go_roundw
        case rel => exact ⟨k + 1, by omega, by go_num, HR.out, blw_trans HW.out HBx.out⟩
        case measure => simp [intOf]; omega
      obtain ⟨hw, hhw⟩ : ∃ hw, hw = Pl.has row m.whn := ⟨_, rfl⟩
      obtain ⟨hf, hhf⟩ : ∃ hf, hf = Pl.has row m.frm := ⟨_, rfl⟩
      have HCw : Hid (∀ W, Below wr.heap.size wr W → Calls Tryz.prog 115 #[.slice a n c, .string m.whn] W fun e w' => e = .returned (.bool hw) ∧ W = w') := by rw [hhw]; exact fun W hW' => HC.out m.whn W hW'
      have HCf : Hid (∀ W, Below wr.heap.size wr W → Calls Tryz.prog 115 #[.slice a n c, .string m.frm] W fun e w' => e = .returned (.bool hf) ∧ W = w') := by rw [hhf]; exact fun W hW' => HC.out m.frm W hW'
      have HT2 : Hid (readyN1 K f row (ms.getD k Mnd.none) = ((m.whn.toList.isEmpty || hw) && (m.frm.toList.isEmpty || hf))) := by show readyN1 K f row _ = _; rw [HT.out, q0, q1, hhw, hhf]; rfl
      clear HT HC hhw hhf
      cases e2 : m.whn.toList.isEmpty
      · cases e5 : m.frm.toList.isEmpty
        · go_wp2_with fail
          refine (HCw.out _ HBx.out).mono ?_
          rintro e w' ⟨rfl, rfl⟩
          cases hw
          · have HR : Hid (readyN ms K f row = false) := HZ.out (by rw [HT2.out, e2, e5]; simp)
            go_wp2
            go_ret
            exact ⟨Pl.ret_bool HR.out.symm, blw_trans HW.out HBx.out⟩
          · go_wp2_with fail
            refine (HCf.out _ HBx.out).mono ?_
            rintro e w' ⟨rfl, rfl⟩
            cases hf
            · have HR : Hid (readyN ms K f row = false) := HZ.out (by rw [HT2.out, e2, e5]; simp)
              go_wp2
              go_ret
              exact ⟨Pl.ret_bool HR.out.symm, blw_trans HW.out HBx.out⟩
            · have HR : Hid (readyNTo ms K f row (k + 1) = true) := HS.out (by rw [HT2.out, e2, e5]; rfl)
              go_wp2
              go_roundw
              case rel => exact ⟨k + 1, by omega, by go_num, HR.out, blw_trans HW.out HBx.out⟩
              case measure => simp [intOf]; omega
        · go_wp2_with fail
          refine (HCw.out _ HBx.out).mono ?_
          rintro e w' ⟨rfl, rfl⟩
          cases hw
          · have HR : Hid (readyN ms K f row = false) := HZ.out (by rw [HT2.out, e2, e5]; simp)
            go_wp2
            go_ret
            exact ⟨Pl.ret_bool HR.out.symm, blw_trans HW.out HBx.out⟩
          · have HR : Hid (readyNTo ms K f row (k + 1) = true) := HS.out (by rw [HT2.out, e2, e5]; rfl)
            go_wp2
            go_roundw
            case rel => exact ⟨k + 1, by omega, by go_num, HR.out, blw_trans HW.out HBx.out⟩
            case measure => simp [intOf]; omega
      · cases e5 : m.frm.toList.isEmpty
        · go_wp2_with fail
          refine (HCf.out _ HBx.out).mono ?_
          rintro e w' ⟨rfl, rfl⟩
          cases hf
          · have HR : Hid (readyN ms K f row = false) := HZ.out (by rw [HT2.out, e2, e5]; simp)
            go_wp2
            go_ret
            exact ⟨Pl.ret_bool HR.out.symm, blw_trans HW.out HBx.out⟩
          · have HR : Hid (readyNTo ms K f row (k + 1) = true) := HS.out (by rw [HT2.out, e2, e5]; rfl)
            go_wp2
            go_roundw
            case rel => exact ⟨k + 1, by omega, by go_num, HR.out, blw_trans HW.out HBx.out⟩
            case measure => simp [intOf]; omega
        · have HR : Hid (readyNTo ms K f row (k + 1) = true) := HS.out (by rw [HT2.out, e2, e5]; rfl)
          go_wp2
          go_roundw
          case rel => exact ⟨k + 1, by omega, by go_num, HR.out, blw_trans HW.out HBx.out⟩
          case measure => simp [intOf]; omega
    · have HR : Hid (readyN ms K f row = true) := by have e : k = ms.length := (by omega); have := HA.out; rw [e] at this; exact this
      go_wp2
      go_ret
      exact ⟨Pl.ret_bool HR.out.symm, HW.out⟩

end Go.Proofs.YtliaibdbcaglnaaGreat
