/-
  Sheets: rules: plain.
-/
import Derived.Test.YtojcopamegmeeaaEPl
namespace Go.Proofs.Ytojcopamegmeeaa.Pl

/-- A word that begins here, and how many bytes behind its first it takes. -/
def nextW (c : UInt8) (r : List UInt8) : Option (List UInt8 × Nat) :=
  if c.toNat = 34 then quoL r
  else if bareB c then some ((c :: r).takeWhile bareB, ((c :: r).takeWhile bareB).length - 1) else none
def behind (l : List UInt8) : Bool := match l with
  | [] => true
  | c :: _ => decide (c.toNat = 32) || decide (c.toNat = 35)
def cutL : List UInt8 → Nat → Option (List ByteArray)
  | [], _ => some []
  | c :: r, m =>
    if c.toNat = 32 then cutL r m
    else if c.toNat = 35 then some []
    else match nextW c r with
      | none => none
      | some (x, n) => if behind (r.drop n) && decide (x.length ≤ 200) && decide (m < 8) then (cutL (r.drop n) (m + 1)).map (⟨x.toArray⟩ :: ·) else none
termination_by l => l.length
decreasing_by all_goals simp_all <;> omega
theorem cutN (r : List UInt8) (c : UInt8) (m : Nat) (h1 : c.toNat ≠ 32) (h2 : c.toNat ≠ 35) (h : nextW c r = none) : cutL (c :: r) m = none := by
  rw [cutL, if_neg h1, if_neg h2, h]
theorem cutX (r : List UInt8) (c : UInt8) (m : Nat) (x : List UInt8) (n : Nat) (h1 : c.toNat ≠ 32) (h2 : c.toNat ≠ 35) (h : nextW c r = some (x, n)) (hb : (behind (r.drop n) && decide (x.length ≤ 200) && decide (m < 8)) = false) : cutL (c :: r) m = none := by
  rw [cutL, if_neg h1, if_neg h2, h]; simp only [hb, Bool.false_eq_true, if_false]
theorem cutY (r : List UInt8) (c : UInt8) (m : Nat) (x : List UInt8) (n : Nat) (h1 : c.toNat ≠ 32) (h2 : c.toNat ≠ 35) (h : nextW c r = some (x, n)) (hb : (behind (r.drop n) && decide (x.length ≤ 200) && decide (m < 8)) = true) : cutL (c :: r) m = (cutL (r.drop n) (m + 1)).map (⟨x.toArray⟩ :: ·) := by
  rw [cutL, if_neg h1, if_neg h2, h]; simp only [hb, if_true]
theorem cutC {l d d' : List UInt8} {ws : List ByteArray} {x : ByteArray} (h : cutL l 0 = (cutL d ws.length).map (ws ++ ·)) (h' : cutL d ws.length = (cutL d' (ws.length + 1)).map (x :: ·)) : cutL l 0 = (cutL d' (ws ++ [x]).length).map ((ws ++ [x]) ++ ·) := by
  rw [h, h', Option.map_map, List.length_append]
  congr 1
  funext p
  simp [Function.comp]
theorem tw_stop : ∀ (l : List UInt8) (j : Nat), j ≤ l.length → (∀ i (h : i < l.length), i < j → bareB l[i] = true) → (∀ h : j < l.length, bareB l[j] = false) → l.takeWhile bareB = l.take j
  | [], j, hj, _, _ => by simp
  | c :: l, 0, hj, _, h => by
    have := h (by simp)
    simp only [List.getElem_cons_zero] at this
    rw [List.takeWhile_cons, this]; simp
  | c :: l, j + 1, hj, ha, h => by
    have := ha 0 (by simp) (by omega)
    simp only [List.getElem_cons_zero] at this
    rw [List.takeWhile_cons, this, List.take_succ_cons]
    simp only [if_true]
    rw [tw_stop l j (by simpa using hj) (fun i hi hij => ha (i + 1) (by rw [List.length_cons]; omega) (by omega)) (fun hh => h (by rw [List.length_cons]; omega))]
theorem ext_list (s : ByteArray) (a b : Nat) : (s.extract a b).data.toList = (s.data.toList.drop a).take (b - a) := by
  simp [ByteArray.data_extract]
theorem ext_end (s : ByteArray) (a : Nat) : (s.extract a s.size).data.toList = s.data.toList.drop a := by
  rw [ext_list, List.take_of_length_le (by rw [drop_len]; exact Nat.le_refl _)]
theorem nextB0 (s : ByteArray) (k : Nat) (h : k < s.size) (h34 : s[k].toNat ≠ 34) (hb : bareB s[k] = false) : nextW s[k] (s.data.toList.drop (k + 1)) = none := by
  rw [nextW, if_neg h34, hb]; rfl
theorem nextB (s : ByteArray) (k p : Nat) (h : k < s.size) (h34 : s[k].toNat ≠ 34) (hkp : k < p) (hp : p ≤ s.size) (hall : ∀ i (hi : i < s.size), k ≤ i → i < p → bareB s[i] = true) (hst : ∀ hi : p < s.size, bareB s[p] = false) :
    nextW s[k] (s.data.toList.drop (k + 1)) = some ((s.extract k p).data.toList, p - k - 1) := by
  have hb := hall k h (Nat.le_refl _) hkp
  have htw : (s.data.toList.drop k).takeWhile bareB = (s.data.toList.drop k).take (p - k) := by
    refine tw_stop _ _ (by rw [drop_len]; omega) (fun i hi hij => ?_) (fun hi => ?_)
    · rw [List.getElem_drop]
      have hi' : k + i < s.size := by rw [drop_len] at hi; omega
      exact hall (k + i) hi' (by omega) (by omega)
    · have hi' : p < s.size := by rw [drop_len] at hi; omega
      have := hst hi'
      have e : (s.data.toList.drop k)[p - k] = s[p] := by
        rw [List.getElem_drop]
        have : k + (p - k) = p := by omega
        simp only [this]; rfl
      rw [e]; exact this
  rw [nextW, if_neg h34, hb, ← drop_at s k h, htw, ext_list]
  simp only [if_true]
  congr 2
  rw [List.length_take, drop_len]; omega

end Go.Proofs.Ytojcopamegmeeaa.Pl

namespace Go.Proofs.Ytojcopamegmeeaa.Pl

def splA (acc : List UInt8) : List UInt8 → List (List UInt8)
  | [] => [acc]
  | c :: l => if c.toNat = 32 then acc :: splA [] l else splA (acc ++ [c]) l
def splL (s : ByteArray) : List ByteArray := (splA [] s.data.toList).map fun x => ⟨x.toArray⟩
/-- The rest of a text that is cut, from k on, the last cut having been at f. -/
def splR (s : ByteArray) (f k : Nat) : List ByteArray := (splA ((s.data.toList.drop f).take (k - f)) (s.data.toList.drop k)).map fun x => ⟨x.toArray⟩
theorem splR_start (s : ByteArray) : splR s 0 0 = splL s := by simp [splR, splL]
theorem splR_cut (s : ByteArray) (f k : Nat) (h : k < s.size) (hc : s[k].toNat = 32) : splR s f k = s.extract f k :: splR s (k + 1) (k + 1) := by
  rw [splR, drop_at s k h, splA, if_pos hc, List.map_cons, ← ext_list, back, splR]
  simp
theorem splR_on (s : ByteArray) (f k : Nat) (hf : f ≤ k) (h : k < s.size) (hc : s[k].toNat ≠ 32) : splR s f k = splR s f (k + 1) := by
  rw [splR, drop_at s k h, splA, if_neg hc, splR]
  congr 2
  have e : k + 1 - f = (k - f) + 1 := by omega
  have hl : k - f < (s.data.toList.drop f).length := by rw [drop_len]; omega
  rw [e, List.take_succ_eq_append_getElem hl]
  congr 2
  rw [List.getElem_drop]
  have : f + (k - f) = k := by omega
  simp only [this]; rfl
theorem splR_end (s : ByteArray) (f : Nat) : splR s f s.size = [s.extract f s.size] := by
  have e : s.data.toList.drop s.size = [] := List.drop_of_length_le (by rw [len_data]; exact Nat.le_refl _)
  rw [splR, e, splA, List.map_cons, List.map_nil, ← ext_list, back]

end Go.Proofs.Ytojcopamegmeeaa.Pl

namespace Go.Proofs.Ytojcopamegmeeaa.Pl

structure Ru where
  key : ByteArray
  args : List Int
  many : Bool
  dflt : List ByteArray
def kTeamR : List Ru := [⟨{ data := #[99, 111, 112, 105, 101, 115] }, [1], false, [{ data := #[49, 48, 48] }]⟩, ⟨{ data := #[114, 111, 111, 109] }, [1], false, [{ data := #[49, 48, 48, 48] }]⟩]
def kBerthR : List Ru := [⟨{ data := #[122, 111, 110, 101] }, [3], false, [{ data := #[122] }]⟩, ⟨{ data := #[114, 111, 111, 109] }, [1], false, [{ data := #[49, 48, 48] }]⟩, ⟨{ data := #[104, 111, 108, 100] }, [1], false, [{ data := #[49, 48, 48] }]⟩, ⟨{ data := #[109, 97, 114, 107] }, [3], true, []⟩]
def kServiceR : List Ru := [⟨{ data := #[116, 101, 97, 109] }, [3], false, [{ data := #[99, 111, 114, 101] }]⟩, ⟨{ data := #[105, 109, 97, 103, 101] }, [1], false, [{ data := #[49] }]⟩, ⟨{ data := #[119, 97, 110, 116] }, [1], false, [{ data := #[49] }]⟩, ⟨{ data := #[100, 111, 119, 110] }, [1], false, [{ data := #[49] }]⟩, ⟨{ data := #[111, 118, 101, 114] }, [1], false, [{ data := #[48] }]⟩, ⟨{ data := #[110, 101, 101, 100, 115] }, [1, 1], false, [{ data := #[49] }, { data := #[49] }]⟩, ⟨{ data := #[119, 104, 101, 114, 101] }, [4], false, [{ data := #[] }]⟩, ⟨{ data := #[108, 105, 107, 101] }, [4, 2], true, []⟩, ⟨{ data := #[97, 112, 97, 114, 116] }, [6], false, [{ data := #[110, 111, 110, 101] }]⟩, ⟨{ data := #[118, 111, 108, 117, 109, 101] }, [5], false, [{ data := #[110, 111] }]⟩, ⟨{ data := #[102, 111, 108, 108, 111, 119] }, [1, 1, 1], false, [{ data := #[48] }, { data := #[48] }, { data := #[48] }]⟩, ⟨{ data := #[112, 97, 99, 101] }, [1, 1, 1], false, [{ data := #[48] }, { data := #[48] }, { data := #[48] }]⟩]
def rulesOf (s : ByteArray) : List Ru :=
  if s.toList == [116, 101, 97, 109] then kTeamR
  else if s.toList == [98, 101, 114, 116, 104] then kBerthR
  else if s.toList == [115, 101, 114, 118, 105, 99, 101] then kServiceR
  else []
theorem spl_team_copies : splL { data := #[49, 48, 48] } = [{ data := #[49, 48, 48] }] := by rfl
theorem spl_team_room : splL { data := #[49, 48, 48, 48] } = [{ data := #[49, 48, 48, 48] }] := by rfl
theorem spl_berth_zone : splL { data := #[122] } = [{ data := #[122] }] := by rfl
theorem spl_berth_room : splL { data := #[49, 48, 48] } = [{ data := #[49, 48, 48] }] := by rfl
theorem spl_berth_hold : splL { data := #[49, 48, 48] } = [{ data := #[49, 48, 48] }] := by rfl
theorem spl_service_team : splL { data := #[99, 111, 114, 101] } = [{ data := #[99, 111, 114, 101] }] := by rfl
theorem spl_service_image : splL { data := #[49] } = [{ data := #[49] }] := by rfl
theorem spl_service_want : splL { data := #[49] } = [{ data := #[49] }] := by rfl
theorem spl_service_down : splL { data := #[49] } = [{ data := #[49] }] := by rfl
theorem spl_service_over : splL { data := #[48] } = [{ data := #[48] }] := by rfl
theorem spl_service_needs : splL { data := #[49, 32, 49] } = [{ data := #[49] }, { data := #[49] }] := by rfl
theorem spl_service_where : splL { data := #[] } = [{ data := #[] }] := by rfl
theorem spl_service_apart : splL { data := #[110, 111, 110, 101] } = [{ data := #[110, 111, 110, 101] }] := by rfl
theorem spl_service_volume : splL { data := #[110, 111] } = [{ data := #[110, 111] }] := by rfl
theorem spl_service_follow : splL { data := #[48, 32, 48, 32, 48] } = [{ data := #[48] }, { data := #[48] }, { data := #[48] }] := by rfl
theorem spl_service_pace : splL { data := #[48, 32, 48, 32, 48] } = [{ data := #[48] }, { data := #[48] }, { data := #[48] }] := by rfl

end Go.Proofs.Ytojcopamegmeeaa.Pl
