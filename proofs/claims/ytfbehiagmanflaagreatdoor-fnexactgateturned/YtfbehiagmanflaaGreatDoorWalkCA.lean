/-
  Walks: what is wrong with an object: the program.
-/
import Derived.Test.YtfbehiagmanflaaGreatDoorObj
namespace Go.Proofs.YtfbehiagmanflaaGreatDoor
open Go.RowKit Go.Deep

/-- A fault as an error: nothing, or a code and a place. -/
def errV (c p : Nat) : Value := if c = 0 then .nilIface else .iface 65 (.agg #[.int .i64 (c : Nat), .int .i64 (p : Nat)])
def okV (b : Bool) : Value := if b = true then .nilIface else .iface 65 (.agg #[.int .i64 1, .int .i64 0])

theorem badUnless (b : Bool) (w : World) : Calls Tryz.prog 62 #[.bool b] w fun e w' => e = .returned (okV b) ∧ w = w' := by
  cases b
  all_goals
    go_enter Tryz.func62, Tryz.ntmps62
    go_wp2
    go_ret
    exact ⟨rfl, rfl⟩

theorem ret_val {x y : Value} (h : x = y) : Ending.returned x = Ending.returned y := by rw [h]

def goodNames (o : Ob) : Bool := Pl.nameOk o.name && Pl.nameOk o.team
def goodHolds (o : Ob) : Bool := decide (o.holds.length ≤ 3) && Pl.asc o.holds
def goodVersion (o : Ob) : Bool := decide (0 ≤ o.version) && decide (o.version ≤ 1000000)

set_option maxHeartbeats 1000000 in
theorem checkNames (K : ByteArray) (fb : Nat) (fs : List Fld) (o : Ob) (b1 c1 b2 c2 : Nat) (w : World) (hs : o.sized) :
    Calls Tryz.prog 46 #[.agg #[.string K, .slice (some ⟨fb, 0, none⟩) fs.length fs.length], .agg #[.string o.kind, .string o.name, .string o.team, .slice (some ⟨b1, 0, none⟩) o.values.length c1, .bool o.ending, .slice (some ⟨b2, 0, none⟩) o.holds.length c2, .int .i64 o.version]] w fun e w' => e = .returned (okV (goodNames o)) ∧ Below w.heap.size w w' := by
  have HB : Hid (Below w.heap.size w ((w.alloc (.cells #[.string K, .slice (some ⟨fb, 0, none⟩) fs.length fs.length] 49)).alloc (.cells #[.string o.kind, .string o.name, .string o.team, .slice (some ⟨b1, 0, none⟩) o.values.length c1, .bool o.ending, .slice (some ⟨b2, 0, none⟩) o.holds.length c2, .int .i64 o.version] 32))) := blw_alloc (blw_alloc (Below.refl _ _) _) _
  have HS : Hid (o.name.size ≤ maxLen ∧ o.team.size ≤ maxLen) := ⟨hs.2.1, hs.2.2⟩
  clear hs
  go_enter Tryz.func46, Tryz.ntmps46
  go_wp2_with fail
  refine (isName_any o.name _ HS.out.1).mono ?_
  rintro e w' ⟨rfl, rfl⟩
  cases h1 : Pl.nameOk o.name
  · have HT : Hid (goodNames o = false) := by show goodNames o = false; unfold goodNames; rw [h1]; rfl
    go_wp2_with fail
    refine (badUnless false _).mono ?_
    rintro e w' ⟨rfl, rfl⟩
    obtain ⟨R, hR⟩ : ∃ R, R = okV false := ⟨_, rfl⟩
    rw [← hR]
    have HRR : Hid (R = okV false) := hR
    clear hR
    go_wp2
    go_ret
    exact ⟨ret_val (by rw [HRR.out, HT.out]; rfl), HB.out⟩
  · go_wp2_with fail
    refine (isName_any o.team _ HS.out.2).mono ?_
    rintro e w' ⟨rfl, rfl⟩
    have HT : Hid (goodNames o = Pl.nameOk o.team) := by show goodNames o = _; unfold goodNames; rw [h1]; rfl
    obtain ⟨q, hq⟩ : ∃ q, q = Pl.nameOk o.team := ⟨_, rfl⟩
    rw [← hq] at HT ⊢
    clear hq
    go_wp2_with fail
    refine (badUnless q _).mono ?_
    rintro e w' ⟨rfl, rfl⟩
    obtain ⟨R, hR⟩ : ∃ R, R = okV q := ⟨_, rfl⟩
    rw [← hR]
    have HRR : Hid (R = okV q) := hR
    clear hR
    go_wp2
    go_ret
    exact ⟨ret_val (by rw [HRR.out, HT.out]; rfl), HB.out⟩

set_option maxRecDepth 8000 in
set_option maxHeartbeats 1000000 in
theorem checkCount (K : ByteArray) (fb : Nat) (fs : List Fld) (o : Ob) (b1 c1 b2 c2 : Nat) (w : World) :
    Calls Tryz.prog 47 #[.agg #[.string K, .slice (some ⟨fb, 0, none⟩) fs.length fs.length], .agg #[.string o.kind, .string o.name, .string o.team, .slice (some ⟨b1, 0, none⟩) o.values.length c1, .bool o.ending, .slice (some ⟨b2, 0, none⟩) o.holds.length c2, .int .i64 o.version]] w fun e w' => e = .returned (okV (decide (o.values.length = fs.length))) ∧ Below w.heap.size w w' := by
  have HB : Hid (Below w.heap.size w ((w.alloc (.cells #[.string K, .slice (some ⟨fb, 0, none⟩) fs.length fs.length] 49)).alloc (.cells #[.string o.kind, .string o.name, .string o.team, .slice (some ⟨b1, 0, none⟩) o.values.length c1, .bool o.ending, .slice (some ⟨b2, 0, none⟩) o.holds.length c2, .int .i64 o.version] 32))) := blw_alloc (blw_alloc (Below.refl _ _) _) _
  by_cases h1 : (o.values.length : Int) = (fs.length : Int)
  · have HT : Hid (decide (o.values.length = fs.length) = true) := by show decide _ = true; simp; omega
    go_enter Tryz.func47, Tryz.ntmps47
    go_wp2_with fail
    refine (badUnless true _).mono ?_
    rintro e w' ⟨rfl, rfl⟩
    obtain ⟨R, hR⟩ : ∃ R, R = okV true := ⟨_, rfl⟩
    rw [← hR]
    have HRR : Hid (R = okV true) := hR
    clear hR
    go_wp2
    go_ret
    exact ⟨ret_val (by rw [HRR.out, HT.out]; rfl), HB.out⟩
  · have HT : Hid (decide (o.values.length = fs.length) = false) := by show decide _ = false; simp; omega
    have h2 : ((o.values.length : Int) == (fs.length : Int)) = false := by rw [beq_eq_false_iff_ne]; exact h1
    go_enter Tryz.func47, Tryz.ntmps47
    go_wp2_with fail
    refine (badUnless false _).mono ?_
    rintro e w' ⟨rfl, rfl⟩
    obtain ⟨R, hR⟩ : ∃ R, R = okV false := ⟨_, rfl⟩
    rw [← hR]
    have HRR : Hid (R = okV false) := hR
    clear hR
    go_wp2
    go_ret
    exact ⟨ret_val (by rw [HRR.out, HT.out]; rfl), HB.out⟩

set_option maxHeartbeats 1000000 in
theorem checkHolds (K : ByteArray) (fb : Nat) (fs : List Fld) (o : Ob) (b1 c1 b2 c2 : Nat) (w : World) (h : ObArg w b1 b2 o) (hz : ∀ i, i < o.holds.length → (o.holds.getD i ByteArray.empty).size ≤ maxLen) :
    Calls Tryz.prog 48 #[.agg #[.string K, .slice (some ⟨fb, 0, none⟩) fs.length fs.length], .agg #[.string o.kind, .string o.name, .string o.team, .slice (some ⟨b1, 0, none⟩) o.values.length c1, .bool o.ending, .slice (some ⟨b2, 0, none⟩) o.holds.length c2, .int .i64 o.version]] w fun e w' => e = .returned (okV (goodHolds o)) ∧ Below w.heap.size w w' := by
  have HB : Hid (Below w.heap.size w ((w.alloc (.cells #[.string K, .slice (some ⟨fb, 0, none⟩) fs.length fs.length] 49)).alloc (.cells #[.string o.kind, .string o.name, .string o.team, .slice (some ⟨b1, 0, none⟩) o.values.length c1, .bool o.ending, .slice (some ⟨b2, 0, none⟩) o.holds.length c2, .int .i64 o.version] 32))) := blw_alloc (blw_alloc (Below.refl _ _) _) _
  have hl := h.len2
  have HX : Hid (Calls Tryz.prog 63 #[.slice (some ⟨b2, 0, none⟩) o.holds.length c2] ((w.alloc (.cells #[.string K, .slice (some ⟨fb, 0, none⟩) fs.length fs.length] 49)).alloc (.cells #[.string o.kind, .string o.name, .string o.team, .slice (some ⟨b1, 0, none⟩) o.values.length c1, .bool o.ending, .slice (some ⟨b2, 0, none⟩) o.holds.length c2, .int .i64 o.version] 32)) fun e w' => e = .returned (.bool (Pl.asc o.holds)) ∧ ((w.alloc (.cells #[.string K, .slice (some ⟨fb, 0, none⟩) fs.length fs.length] 49)).alloc (.cells #[.string o.kind, .string o.name, .string o.team, .slice (some ⟨b1, 0, none⟩) o.values.length c1, .bool o.ending, .slice (some ⟨b2, 0, none⟩) o.holds.length c2, .int .i64 o.version] 32)) = w') :=
    asc_row b2 c2 o.holds _ hl hz (fun i hi => by rw [Nat.zero_add]; exact (h.later HB.out).at2 i hi)
  clear h hz
  by_cases h1 : (o.holds.length : Int) ≤ 3
  · obtain ⟨q, hq⟩ : ∃ q, q = Pl.asc o.holds := ⟨_, rfl⟩
    rw [← hq] at HX
    have HT : Hid (goodHolds o = q) := by show goodHolds o = q; unfold goodHolds; rw [hq]; simp; omega
    clear hq
    go_enter Tryz.func48, Tryz.ntmps48
    go_wp2_with fail
    refine HX.out.mono ?_
    rintro e w' ⟨rfl, rfl⟩
    go_wp2_with fail
    refine (badUnless q _).mono ?_
    rintro e w' ⟨rfl, rfl⟩
    obtain ⟨R, hR⟩ : ∃ R, R = okV q := ⟨_, rfl⟩
    rw [← hR]
    have HRR : Hid (R = okV q) := hR
    clear hR
    go_wp2
    go_ret
    exact ⟨ret_val (by rw [HRR.out, HT.out]; rfl), HB.out⟩
  · have HT : Hid (goodHolds o = false) := by show goodHolds o = false; unfold goodHolds; simp; omega
    clear HX
    go_enter Tryz.func48, Tryz.ntmps48
    go_wp2_with fail
    refine (badUnless false _).mono ?_
    rintro e w' ⟨rfl, rfl⟩
    obtain ⟨R, hR⟩ : ∃ R, R = okV false := ⟨_, rfl⟩
    rw [← hR]
    have HRR : Hid (R = okV false) := hR
    clear hR
    go_wp2
    go_ret
    exact ⟨ret_val (by rw [HRR.out, HT.out]; rfl), HB.out⟩

set_option maxHeartbeats 1000000 in
theorem checkVersion (K : ByteArray) (fb : Nat) (fs : List Fld) (o : Ob) (b1 c1 b2 c2 : Nat) (w : World) :
    Calls Tryz.prog 49 #[.agg #[.string K, .slice (some ⟨fb, 0, none⟩) fs.length fs.length], .agg #[.string o.kind, .string o.name, .string o.team, .slice (some ⟨b1, 0, none⟩) o.values.length c1, .bool o.ending, .slice (some ⟨b2, 0, none⟩) o.holds.length c2, .int .i64 o.version]] w fun e w' => e = .returned (okV (goodVersion o)) ∧ Below w.heap.size w w' := by
  have HB : Hid (Below w.heap.size w ((w.alloc (.cells #[.string K, .slice (some ⟨fb, 0, none⟩) fs.length fs.length] 49)).alloc (.cells #[.string o.kind, .string o.name, .string o.team, .slice (some ⟨b1, 0, none⟩) o.values.length c1, .bool o.ending, .slice (some ⟨b2, 0, none⟩) o.holds.length c2, .int .i64 o.version] 32))) := blw_alloc (blw_alloc (Below.refl _ _) _) _
  by_cases h1 : 0 ≤ o.version
  · by_cases h2 : o.version ≤ 1000000
    · have HT : Hid (goodVersion o = true) := by show goodVersion o = true; unfold goodVersion; simp [h1, h2]
      go_enter Tryz.func49, Tryz.ntmps49
      go_wp2_with fail
      refine (badUnless true _).mono ?_
      rintro e w' ⟨rfl, rfl⟩
      obtain ⟨R, hR⟩ : ∃ R, R = okV true := ⟨_, rfl⟩
      rw [← hR]
      have HRR : Hid (R = okV true) := hR
      clear hR
      go_wp2
      go_ret
      exact ⟨ret_val (by rw [HRR.out, HT.out]; rfl), HB.out⟩
    · have HT : Hid (goodVersion o = false) := by show goodVersion o = false; unfold goodVersion; simp [h2]
      go_enter Tryz.func49, Tryz.ntmps49
      go_wp2_with fail
      refine (badUnless false _).mono ?_
      rintro e w' ⟨rfl, rfl⟩
      obtain ⟨R, hR⟩ : ∃ R, R = okV false := ⟨_, rfl⟩
      rw [← hR]
      have HRR : Hid (R = okV false) := hR
      clear hR
      go_wp2
      go_ret
      exact ⟨ret_val (by rw [HRR.out, HT.out]; rfl), HB.out⟩
  · have HT : Hid (goodVersion o = false) := by show goodVersion o = false; unfold goodVersion; simp [h1]
    go_enter Tryz.func49, Tryz.ntmps49
    go_wp2_with fail
    refine (badUnless false _).mono ?_
    rintro e w' ⟨rfl, rfl⟩
    obtain ⟨R, hR⟩ : ∃ R, R = okV false := ⟨_, rfl⟩
    rw [← hR]
    have HRR : Hid (R = okV false) := hR
    clear hR
    go_wp2
    go_ret
    exact ⟨ret_val (by rw [HRR.out, HT.out]; rfl), HB.out⟩

def badAt (fs : List Fld) (vs : List ByteArray) (i : Nat) : Nat :=
  if (vs.getD i ByteArray.empty).toList.isEmpty = true then (if (fs.getD i Fld.none).must = true then 2 else 0) else (if fitB (fs.getD i Fld.none) (vs.getD i ByteArray.empty) = true then 0 else 3)
def badFirst (fs : List Fld) (vs : List ByteArray) : Nat := (List.range fs.length).findIdx fun i => decide (badAt fs vs i ≠ 0)
def badCode (fs : List Fld) (vs : List ByteArray) : Nat := if badFirst fs vs < fs.length then badAt fs vs (badFirst fs vs) else 0
def badPlace (fs : List Fld) (vs : List ByteArray) : Nat := if badFirst fs vs < fs.length then badFirst fs vs else 0

theorem badFirst_hit {fs : List Fld} {vs : List ByteArray} {i : Nat} (_hi : i < fs.length) (hno : i ≤ badFirst fs vs) (h : badAt fs vs i ≠ 0) : badFirst fs vs = i := by
  have : badFirst fs vs ≤ i := by
    unfold badFirst
    exact Nat.le_of_not_lt fun hlt => by
      have := List.not_of_lt_findIdx hlt
      simp [h] at this
  omega
theorem badFirst_miss {fs : List Fld} {vs : List ByteArray} {i : Nat} (hi : i < fs.length) (hno : i ≤ badFirst fs vs) (h : badAt fs vs i = 0) : i + 1 ≤ badFirst fs vs := by
  by_cases hq : badFirst fs vs = i
  · exfalso
    have hlt : badFirst fs vs < (List.range fs.length).length := by simp; omega
    have := List.findIdx_getElem (w := hlt)
    unfold badFirst at hq
    simp only [hq] at this
    simp [h] at this
  · omega

theorem implFitsF (f : Fld) (b : Nat) (v : ByteArray) (w : World) (hv : v.size ≤ maxLen) (h : FldArg w b f) :
    Calls Tryz.prog 64 #[.agg #[.string f.nm, .int .i64 f.kind, .int .i64 f.least, .int .i64 f.most, .slice (some ⟨b, 0, none⟩) f.words.length f.words.length, .string f.to, .int .i64 f.role, .bool f.must, .bool f.fixed, .string f.de, .string f.we], .string v] w
      fun e w' => e = .returned (.bool (fitB f v)) ∧ Below w.heap.size w w' :=
  implFits_any f.nm f.kind f.least f.most b 0 _ f.to f.role f.must f.fixed f.de f.we v f.words w hv h.lt (by have := h.small; unfold Fld.small at this; unfold maxLen; omega) h.cells

set_option maxRecDepth 8000 in
set_option maxHeartbeats 4000000 in
theorem checkValues (K : ByteArray) (fb : Nat) (fs : List Fld) (o : Ob) (b1 c1 b2 c2 : Nat) (w : World) (h : ObArg w b1 b2 o) (hf : FldsIn w fb fs) (hz : ∀ i, i < o.values.length → (o.values.getD i ByteArray.empty).size ≤ maxLen) (hn : o.values.length = fs.length) :
    Calls Tryz.prog 50 #[.agg #[.string K, .slice (some ⟨fb, 0, none⟩) fs.length fs.length], .agg #[.string o.kind, .string o.name, .string o.team, .slice (some ⟨b1, 0, none⟩) o.values.length c1, .bool o.ending, .slice (some ⟨b2, 0, none⟩) o.holds.length c2, .int .i64 o.version]] w fun e w' => e = .returned (errV (badCode fs o.values) (badPlace fs o.values)) ∧ Below w.heap.size w w' := by
  have HA : Hid (ObArg w b1 b2 o ∧ FldsIn w fb fs ∧ (∀ i, i < o.values.length → (o.values.getD i ByteArray.empty).size ≤ maxLen) ∧ o.values.length = fs.length) := ⟨h, hf, hz, hn⟩
  have hl := hf.len
  obtain ⟨w2, hw2⟩ : ∃ w2, w2 = ((w.alloc (.cells #[.string K, .slice (some ⟨fb, 0, none⟩) fs.length fs.length] 49)).alloc (.cells #[.string o.kind, .string o.name, .string o.team, .slice (some ⟨b1, 0, none⟩) o.values.length c1, .bool o.ending, .slice (some ⟨b2, 0, none⟩) o.holds.length c2, .int .i64 o.version] 32)) := ⟨_, rfl⟩
  have HB : Hid (Below w.heap.size w w2) := by show Below _ _ _; rw [hw2]; exact blw_alloc (blw_alloc (Below.refl _ _) _) _
  have HK : Hid (w2.heap.size = w.heap.size + 2 ∧ w2.cell? ⟨w.heap.size + 1, 3, none⟩ = some (.slice (some ⟨b1, 0, none⟩) o.values.length c1) ∧ w2.cell? ⟨w.heap.size, 1, none⟩ = some (.slice (some ⟨fb, 0, none⟩) fs.length fs.length)) := by show _ ∧ _ ∧ _; rw [hw2]; exact ⟨by simp, by simp, by simp⟩
  have k1 := HK.out.2.2
  have k3 := HK.out.2.1
  have hz0 : w.heap.size < w2.heap.size := by have := HK.out.1; omega
  have hz1 : w.heap.size + 1 < w2.heap.size := by have := HK.out.1; omega
  clear h hf hz hn
  go_enter Tryz.func50, Tryz.ntmps50
  go_upto_region 1 with fail
  rw [← hw2]
  clear hw2
  go_wp2
  clear k1 k3 hz0 hz1
  go_loopw [11] (fun i wr => ∃ k : Nat, k ≤ fs.length ∧ i = .int .i64 k ∧ k ≤ badFirst fs o.values ∧ Below w2.heap.size w2 wr) (fun i _ => fs.length - (intOf i).toNat)
  case atStart => exact ⟨0, Nat.zero_le _, rfl, Nat.zero_le _, Below.refl _ _⟩
  case round =>
    obtain ⟨k, hk, rfl, hno, hW⟩ := hrel
    have HN : Hid (k ≤ badFirst fs o.values) := hno
    have HW : Hid (Below w2.heap.size w2 wr) := hW
    have HWw : Hid (Below w.heap.size w wr) := blw_trans HB.out hW
    clear hno
    by_cases hlt : k < fs.length
    · obtain ⟨f, hff⟩ : ∃ f, f = fs.getD k Fld.none := ⟨_, rfl⟩
      obtain ⟨bf, hfa, hfi⟩ := (HA.out.2.1.later HWw.out).arg hlt hff
      have hkv : k < o.values.length := by rw [HA.out.2.2.2]; exact hlt
      have v0 := (HA.out.1.later HWw.out).at1 k hkv
      obtain ⟨v, hv⟩ : ∃ v, v = o.values.getD k ByteArray.empty := ⟨_, rfl⟩
      rw [← hv] at v0
      have HV : Hid (v.size ≤ maxLen) := by show v.size ≤ maxLen; rw [hv]; exact HA.out.2.2.1 k hkv
      have HBa : Hid (badAt fs o.values k = if v.toList.isEmpty = true then (if f.must = true then 2 else 0) else (if fitB f v = true then 0 else 3)) := by show badAt fs o.values k = _; unfold badAt; rw [← hff, ← hv]
      have HM : Hid (badAt fs o.values k = 0 → k + 1 ≤ badFirst fs o.values) := fun e => badFirst_miss hlt HN.out e
      have HH : Hid (∀ c : Nat, c ≠ 0 → badAt fs o.values k = c → errV (badCode fs o.values) (badPlace fs o.values) = .iface 65 (.agg #[.int .i64 (c : Nat), .int .i64 (k : Nat)])) := by
        intro c hc e
        have e1 := badFirst_hit hlt HN.out (by rw [e]; exact hc)
        unfold badCode badPlace errV
        rw [e1, if_pos hlt, if_pos hlt, e, if_neg hc]
      have hb1 : b1 < wr.heap.size := (HA.out.1.later HWw.out).lt1
      have hfb : fb < wr.heap.size := (HA.out.2.1.later HWw.out).lt
      have hzr : w.heap.size + 1 < wr.heap.size := by have := HW.out.size; have := HK.out.1; omega
      have k3 : wr.cell? ⟨w.heap.size + 1, 3, none⟩ = some (.slice (some ⟨b1, 0, none⟩) o.values.length c1) := (hW.cell (p := ⟨w.heap.size + 1, 3, none⟩) (by have := HK.out.1; show w.heap.size + 1 < _; omega)).trans HK.out.2.1
      obtain ⟨c0, c1', c2', c3, c4, c5, c6, c7, c8, c9, c10, _, _⟩ := hfi
      have HFA : Hid (FldArg wr bf f) := hfa
      clear hff hfa hv hW
      cases he : v.toList.isEmpty
      · have HX : Hid (∀ W, Below wr.heap.size wr W → Calls Tryz.prog 64 #[.agg #[.string f.nm, .int .i64 f.kind, .int .i64 f.least, .int .i64 f.most, .slice (some ⟨bf, 0, none⟩) f.words.length f.words.length, .string f.to, .int .i64 f.role, .bool f.must, .bool f.fixed, .string f.de, .string f.we], .string v] W fun e w' => e = .returned (.bool (fitB f v)) ∧ Below W.heap.size W w') := fun W hW' => implFitsF f bf v W HV.out (HFA.out.later hW')
        go_wp2_with fail
        refine (HX.out _ (blw_alloc (Below.refl _ _) _)).mono ?_
        rintro e w3 ⟨rfl, hb3⟩
        have HB3 : Hid (Below wr.heap.size wr w3) := blw_trans (blw_alloc (Below.refl _ _) _) hb3
        clear hb3
        cases hfit : fitB f v
        · have HE : Hid (errV (badCode fs o.values) (badPlace fs o.values) = .iface 65 (.agg #[.int .i64 3, .int .i64 (k : Nat)])) := HH.out 3 (by decide) (by rw [HBa.out, he, hfit]; rfl)
          go_wp2
          go_ret
          exact ⟨ret_val HE.out.symm, blw_trans HWw.out HB3.out⟩
        · have HE : Hid (k + 1 ≤ badFirst fs o.values) := HM.out (by rw [HBa.out, he, hfit]; rfl)
          clear c0 c1' c2' c3 c4 c5 c6 c7 c8 c9 c10 v0 k3
          go_wp2
          go_roundw
          case rel => exact ⟨k + 1, by omega, by go_num, HE.out, blw_trans HW.out HB3.out⟩
          case measure => simp [intOf]; omega
      · cases hmu : f.must
        · have HE : Hid (k + 1 ≤ badFirst fs o.values) := HM.out (by rw [HBa.out, he, hmu]; rfl)
          go_wp2
          go_roundw
          case rel => exact ⟨k + 1, by omega, by go_num, HE.out, blw_alloc HW.out _⟩
          case measure => simp [intOf]; omega
        · have HE : Hid (errV (badCode fs o.values) (badPlace fs o.values) = .iface 65 (.agg #[.int .i64 2, .int .i64 (k : Nat)])) := HH.out 2 (by decide) (by rw [HBa.out, he, hmu]; rfl)
          go_wp2
          go_ret
          exact ⟨ret_val HE.out.symm, blw_alloc HWw.out _⟩
    · have HE : Hid (errV (badCode fs o.values) (badPlace fs o.values) = .nilIface) := by
        show errV _ _ = _
        have e : badCode fs o.values = 0 := by unfold badCode; rw [if_neg (by have := HN.out; omega)]
        unfold errV
        rw [e]; rfl
      go_wp2
      go_ret
      exact ⟨ret_val HE.out.symm, HWw.out⟩

end Go.Proofs.YtfbehiagmanflaaGreatDoor
