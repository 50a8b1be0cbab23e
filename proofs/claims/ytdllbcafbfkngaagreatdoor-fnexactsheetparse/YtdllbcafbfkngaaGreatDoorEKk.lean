/-
  Sheets: lines of a key, counted: by the specification.
-/
import Derived.Test.YtdllbcafbfkngaaGreatDoorEFd
import Derived.Test.YtdllbcafbfkngaaGreatDoorEBt
import Derived.Test.YtdllbcafbfkngaaGreatDoorRgSt
import Derived.Test.YtdllbcafbfkngaaGreatDoorRgMk
import Derived.Test.YtdllbcafbfkngaaGreatDoorESd
import Derived.Test.YtdllbcafbfkngaaGreatDoorUB
import Derived.Test.YtdllbcafbfkngaaGreatDoorECy
namespace Go.Proofs.YtdllbcafbfkngaaGreatDoor.Pl

def isB (kind name : ByteArray) (b : Bl) : Bool := (b.kind.toList == kind.toList) && (b.name.toList == name.toList)
def findF (kind name : ByteArray) : List Bl → Nat → Option Nat
  | [], _ => none
  | b :: l, j => if isB kind name b then some j else findF kind name l (j + 1)
def findB (l : List Bl) (kind name : ByteArray) : Option Nat := findF kind name l 0
theorem findB_hit {l : List Bl} {kind name : ByteArray} {k : Nat} (hk : k < l.length) (h : findB l kind name = findF kind name (l.drop k) k) (hb : isB kind name (l.getD k blNo) = true) : findB l kind name = some k := by
  have e : l.getD k blNo = l[k] := by simp [hk]
  rw [h, List.drop_eq_getElem_cons hk, findF, ← e, if_pos hb]
theorem findB_miss {l : List Bl} {kind name : ByteArray} {k : Nat} (hk : k < l.length) (h : findB l kind name = findF kind name (l.drop k) k) (hb : isB kind name (l.getD k blNo) = false) : findB l kind name = findF kind name (l.drop (k + 1)) (k + 1) := by
  have e : l.getD k blNo = l[k] := by simp [hk]
  rw [h, List.drop_eq_getElem_cons hk, findF, ← e, hb]; rfl
theorem findB_end {l : List Bl} {kind name : ByteArray} (h : findB l kind name = findF kind name (l.drop l.length) l.length) : findB l kind name = none := by
  rw [h, List.drop_length, findF]
end Go.Proofs.YtdllbcafbfkngaaGreatDoor.Pl

namespace Go.Proofs.YtdllbcafbfkngaaGreatDoor
open Go.RowKit Go.Deep

set_option maxHeartbeats 4000000 in
theorem l39FindS (s : List Pl.Bl) (v : Value) (kind name : ByteArray) (w : World) (h : Raw w shBls [blsD s] [v]) :
    Calls Tryz.prog 30 #[.agg #[v], .string kind, .string name] w fun e w' => e = .returned (.int .i64 (Pl.ixI (Pl.findB s kind name))) ∧ Below w.heap.size w w' := by
  have HL := uh h
  obtain ⟨va, vc, ev⟩ := h.len0
  subst ev
  clear h
  obtain ⟨n, hn⟩ : ∃ n, n = s.length := ⟨_, rfl⟩
  have HN := uh hn
  have hnn : s.length = n := hn.symm
  clear hn
  rw [hnn]
  clear hnn
  obtain ⟨wa, hwa⟩ : ∃ wa, wa = w.alloc (.cells #[.slice va n vc] 24) := ⟨_, rfl⟩
  have HBA : Hid (Below w.heap.size w wa) := by show Below _ _ _; rw [hwa]; exact blw_alloc (Below.refl _ _) _
  have HB0 : Hid (LBox wa w.heap.size [.slice va n vc]) := by show LBox _ _ _; rw [hwa]; exact LBox.new w #[.slice va n vc] _ _ rfl
  go_enter Tryz.func30, Tryz.ntmps30
  go_upto_region 1 with fail
  rw [← hwa]
  clear hwa
  have x0 := HB0.out.get 0 _ rfl
  have xl := HB0.out.lt
  obtain ⟨b0, hb0⟩ : ∃ b0, b0 = w.heap.size := ⟨_, rfl⟩
  rw [← hb0] at x0 xl ⊢
  have HBZ := uh hb0
  clear hb0
  go_wp2
  go_loop [7] (fun i => ∃ k : Nat, k ≤ n ∧ i = .int .i64 k ∧ Pl.findB s kind name = Pl.findF kind name (s.drop k) k) (fun i => n - (intOf i).toNat)
  case atStart => exact ⟨0, Nat.zero_le _, rfl, rfl⟩
  case round =>
    obtain ⟨k, hk, rfl, hI⟩ := hrel
    have HI := uh hI
    clear hI
    by_cases hlt : k < n
    rotate_left
    · have HX : Hid (-1 = Pl.ixI (Pl.findB s kind name)) := by
        show _ = _
        obtain rfl : k = s.length := by have := HN.out; omega
        rw [Pl.findB_end HI.out]; rfl
      go_wp2
      go_ret
      exact ⟨Pl.ret_int HX.out, HBZ.out ▸ HBA.out⟩
    have hkL : k < s.length := by have := HN.out; omega
    rcases bls_open (HL.out.later HBA.out) with ⟨e0, _⟩ | ⟨p, o, c, hv, hp, hml, hopen⟩
    · omega
    rw [← HN.out] at hv hml
    injection hv with g1 _ g3
    subst g1; subst g3
    unfold maxLen at hml
    obtain ⟨ax, cx, hgx, hrx⟩ := hopen k hkL
    have HM := uh (fun (h : Pl.isB kind name (s.getD k Pl.blNo) = false) => Pl.findB_miss hkL HI.out h)
    have HH := uh (fun (h : Pl.isB kind name (s.getD k Pl.blNo) = true) => Pl.findB_hit hkL HI.out h)
    obtain ⟨x, hx⟩ : ∃ x, x = s.getD k Pl.blNo := ⟨_, rfl⟩
    rw [← hx] at hgx hrx HM HH
    have y0 : wa.cell? ⟨p, o + k * 3, none⟩ = some (.string x.kind) := rA_get hgx 0 _ rfl
    have y1 : wa.cell? ⟨p, o + k * 3 + 1, none⟩ = some (.string x.name) := rA_get hgx 1 _ rfl
    have hk0 : (0 : Int) ≤ (k : Int) := by omega
    have hkn : (k : Int) < (n : Int) := by omega
    have HB : Hid (Pl.isB kind name x = ((x.kind.toList == kind.toList) && (x.name.toList == name.toList))) := rfl
    clear hx hopen hgx hrx
    cases h1 : (x.kind.toList == kind.toList)
    · have HX := uh (HM.out (by rw [HB.out, h1]; rfl))
      go_wp2
      go_round
      case rel => exact ⟨k + 1, by omega, by go_num, HX.out⟩
      case measure => simp [intOf]; omega
    cases h2 : (x.name.toList == name.toList)
    · have HX := uh (HM.out (by rw [HB.out, h1, h2]; rfl))
      go_wp2
      go_round
      case rel => exact ⟨k + 1, by omega, by go_num, HX.out⟩
      case measure => simp [intOf]; omega
    · have HX : Hid ((k : Int) = Pl.ixI (Pl.findB s kind name)) := by show _ = _; rw [HH.out (by rw [HB.out, h1, h2]; rfl)]; rfl
      go_wp2
      go_ret
      exact ⟨Pl.ret_int HX.out, HBZ.out ▸ HBA.out⟩

end Go.Proofs.YtdllbcafbfkngaaGreatDoor

namespace Go.Proofs.YtdllbcafbfkngaaGreatDoor
open Go.RowKit Go.Deep

end Go.Proofs.YtdllbcafbfkngaaGreatDoor

namespace Go.Proofs.YtdllbcafbfkngaaGreatDoor
open Go.RowKit Go.Deep

def Dat (S : Nat → Prop) (B lo : Nat) (W : World) (sh : List Sh) (A : List Dt) (c : List Value) : Prop := ∃ F, Rep W false sh F A c ∧ ∀ b ∈ F, (S b ∧ b < B) ∨ lo ≤ b
theorem Dat.later {S : Nat → Prop} {B lo : Nat} {W W' : World} {sh : List Sh} {A : List Dt} {c : List Value} (h : Dat S B lo W sh A c) (hb : Below W.heap.size W W') : Dat S B lo W' sh A c := by
  obtain ⟨F, r, f⟩ := h
  exact ⟨F, r.later hb, f⟩
theorem Dat.keep {S T : Nat → Prop} {B lo : Nat} {W W' : World} {sh : List Sh} {A : List Dt} {c : List Value} (h : Dat S B lo W sh A c) (hb : Marks T W W') (hT : ∀ b, T b → B ≤ b ∧ b < lo) : Dat S B lo W' sh A c := by
  obtain ⟨F, r, f⟩ := h
  refine ⟨F, r.keep hb fun b hb' e => ?_, f⟩
  have := hT b e
  rcases f b hb' with q | q <;> omega
theorem Dat.raw {S : Nat → Prop} {B lo : Nat} {W : World} {sh : List Sh} {A : List Dt} {c : List Value} (h : Dat S B lo W sh A c) : Raw W sh A c := by
  obtain ⟨F, r, f⟩ := h
  exact r.raw
theorem dat_new {S : Nat → Prop} {F : List Nat} {B lo : Nat} {w : World} {sh : List Sh} {A : List Dt} {c : List Value} (h : Rep w false sh F A c) (hF : ∀ b ∈ F, lo ≤ b) : Dat S B lo w sh A c := ⟨F, h, fun b hb => Or.inr (hF b hb)⟩
theorem dat_nil {S : Nat → Prop} {B lo : Nat} {w : World} {t : TypeId} {sh : List Sh} : Dat S B lo w [.row t sh] [.row 0 []] [.slice none 0 0] := ⟨[], .emp _ _ _ rfl .nil, by simp⟩
/-- What a call answers that is given such data. -/
def AnsD (S : Nat → Prop) (B lo : Nat) (sh : List Sh) (A : List Dt) (W : World) (e : Ending) (w' : World) : Prop := ∃ c, e = .returned (.agg c.toArray) ∧ Dat S B lo w' sh A c ∧ Below W.heap.size W w'
theorem ansS_dat {S : Nat → Prop} {B lo : Nat} {sh : List Sh} {A : List Dt} {W w' : World} {e : Ending} {T : Nat → Prop} (h : AnsS sh A T W e w') (hT : ∀ b, T b → (S b ∧ b < B) ∨ lo ≤ b) (hl : lo ≤ W.heap.size) : AnsD S B lo sh A W e w' := by
  obtain ⟨c, F, he, r, f, hb⟩ := h
  refine ⟨c, he, ⟨F, r, fun b hb => ?_⟩, hb⟩
  rcases f b hb with q | q
  · exact hT b q
  · exact Or.inr (by omega)
theorem dat_block {S : Nat → Prop} {B lo : Nat} {W : World} {b : Pl.Bl} {c : List Value} (h : Dat S B lo W shSheetBlock (blD b) c) : ∃ a m, c = [.string b.kind, .string b.name, .slice a b.lines.length m] ∧ Dat S B lo W shLns [lnsD b.lines] [.slice a b.lines.length m] := by
  obtain ⟨F, r, f⟩ := h
  obtain ⟨F2, v2, hF, hc, r2⟩ := repSheetBlock r
  subst hc
  obtain ⟨a, m, rfl⟩ := r2.raw.len0
  refine ⟨a, m, rfl, F2, r2, fun b hb => f b ?_⟩
  rw [hF]; simp [hb]
theorem dat_sheet {S : Nat → Prop} {B lo : Nat} {W : World} {s : List Pl.Bl} {c : List Value} (h : Dat S B lo W shSheet [blsD s] c) : ∃ a m, c = [.slice a s.length m] ∧ Dat S B lo W shBls [blsD s] [.slice a s.length m] := by
  obtain ⟨F, r, f⟩ := h
  obtain ⟨F2, v2, hF, hc, r2⟩ := repSheet r
  subst hc
  obtain ⟨a, m, rfl⟩ := r2.raw.len0
  refine ⟨a, m, rfl, F2, r2, fun b hb => f b ?_⟩
  rw [hF]; simp [hb]
theorem dat_blk_mk {S : Nat → Prop} {B lo : Nat} {W : World} {k n : ByteArray} {l : List Pl.Ln} {v : Value} (h : Dat S B lo W shLns [lnsD l] [v]) : Dat S B lo W shSheetBlock (blD ⟨k, n, l⟩) [.string k, .string n, v] := by
  obtain ⟨F, r, f⟩ := h
  exact ⟨F ++ [], repSheetBlock_mk k n r, fun b hb => f b (by simpa using hb)⟩
theorem l39PutLineD {S : Nat → Prop} {B lo : Nat} (b : Pl.Bl) (x : Pl.Ln) (lv wv : Value) (w : World) (h : Dat S B lo w shLns [lnsD b.lines] [lv]) (hx : Dat S B lo w shTxs [.row x.ws.length (txD x.ws)] [wv]) (hl : b.lines.length ≤ 4194304) (hlo : lo ≤ w.heap.size) :
    Calls Tryz.prog 28 #[.agg #[.string b.kind, .string b.name, lv], .agg #[.string x.key, wv]] w (AnsD S B lo shSheetBlock (blD ⟨b.kind, b.name, Pl.putLn b.kind b.lines x⟩) w) := by
  obtain ⟨F, r, f⟩ := h
  obtain ⟨Fx, rx, fx⟩ := hx
  exact (l39PutLineS b x lv wv F Fx w r rx hl).mono fun e w' h => ansS_dat h (fun b hb => hb.elim (f b) (fx b)) hlo
theorem l39PutBlockD {S : Nat → Prop} {B lo : Nat} (s : List Pl.Bl) (x : Pl.Bl) (lv wv : Value) (w : World) (h : Dat S B lo w shBls [blsD s] [lv]) (hx : Dat S B lo w shLns [lnsD x.lines] [wv]) (hl : s.length ≤ 4194304) (hlo : lo ≤ w.heap.size) :
    Calls Tryz.prog 12 #[.agg #[lv], .agg #[.string x.kind, .string x.name, wv]] w (AnsD S B lo shSheet [blsD (Pl.putBl s x)] w) := by
  obtain ⟨F, r, f⟩ := h
  obtain ⟨Fx, rx, fx⟩ := hx
  exact (l39PutBlockS s x lv wv F Fx w r rx hl).mono fun e w' h => ansS_dat h (fun b hb => hb.elim (f b) (fx b)) hlo
namespace Pl
theorem putLn_len (k : ByteArray) (l : List Ln) (x : Ln) : (putLn k l x).length = l.length + 1 := by
  have := List.takeWhile_append_dropWhile (p := fun y => lineLess k y x) (l := l)
  have h2 : (l.takeWhile fun y => lineLess k y x).length + (l.dropWhile fun y => lineLess k y x).length = l.length := by rw [← List.length_append, this]
  simp only [putLn, putAt, List.length_append, List.length_cons]; omega
theorem putBl_len (l : List Bl) (x : Bl) : (putBl l x).length = l.length + 1 := by
  have := List.takeWhile_append_dropWhile (p := fun y => ahead y x) (l := l)
  have h2 : (l.takeWhile fun y => ahead y x).length + (l.dropWhile fun y => ahead y x).length = l.length := by rw [← List.length_append, this]
  simp only [putBl, putAt, List.length_append, List.length_cons]; omega
theorem putLn_mem (k : ByteArray) (l : List Ln) (x y : Ln) : y ∈ putLn k l x ↔ y = x ∨ y ∈ l := by
  have := List.takeWhile_append_dropWhile (p := fun y => lineLess k y x) (l := l)
  rw [putLn, putAt, List.mem_append, List.mem_cons]
  conv => rhs; rw [← this, List.mem_append]
  constructor <;> (rintro (h | h | h) <;> simp [h])
theorem putBl_mem (l : List Bl) (x y : Bl) : y ∈ putBl l x ↔ y = x ∨ y ∈ l := by
  have := List.takeWhile_append_dropWhile (p := fun y => ahead y x) (l := l)
  rw [putBl, putAt, List.mem_append, List.mem_cons]
  conv => rhs; rw [← this, List.mem_append]
  constructor <;> (rintro (h | h | h) <;> simp [h])
end Pl
end Go.Proofs.YtdllbcafbfkngaaGreatDoor

namespace Go.Proofs.YtdllbcafbfkngaaGreatDoor
open Go.RowKit Go.Deep

end Go.Proofs.YtdllbcafbfkngaaGreatDoor

namespace Go.Proofs.YtdllbcafbfkngaaGreatDoor
open Go.RowKit Go.Deep

end Go.Proofs.YtdllbcafbfkngaaGreatDoor

namespace Go.Proofs.YtdllbcafbfkngaaGreatDoor
open Go.RowKit Go.Deep


end Go.Proofs.YtdllbcafbfkngaaGreatDoor

namespace Go.Proofs.YtdllbcafbfkngaaGreatDoor
open Go.RowKit Go.Deep


theorem Dat.shift {S : Nat → Prop} {B lo pb : Nat} {W : World} {sh : List Sh} {A : List Dt} {c : List Value} (h : Dat S B lo W sh A c) (hp : W.heap.size ≤ pb) (lo' : Nat) : Dat (fun b => (S b ∧ b < B) ∨ lo ≤ b) pb lo' W sh A c := by
  obtain ⟨F, r, f⟩ := h
  exact ⟨F, r, fun b hb => Or.inl ⟨f b hb, Nat.lt_of_lt_of_le (r.lt b hb) hp⟩⟩
theorem Dat.back {S : Nat → Prop} {B lo pb lo' : Nat} {W : World} {sh : List Sh} {A : List Dt} {c : List Value} (h : Dat (fun b => (S b ∧ b < B) ∨ lo ≤ b) pb lo' W sh A c) (hl : lo ≤ lo') : Dat S B lo W sh A c := by
  obtain ⟨F, r, f⟩ := h
  refine ⟨F, r, fun b hb => ?_⟩
  rcases f b hb with q | q
  · exact q.1
  · exact Or.inr (by omega)
namespace Pl
end Pl
end Go.Proofs.YtdllbcafbfkngaaGreatDoor

namespace Go.Proofs.YtdllbcafbfkngaaGreatDoor
open Go.RowKit Go.Deep


namespace Pl
def sameCnt (l : List Ln) (x : Ln) : Nat := l.countP fun y => (y.key.toList == x.key.toList) && wordsEq y.ws x.ws
theorem cnt_step {l : List Ln} {p : Ln → Bool} {k : Nat} (hk : k < l.length) : (l.take (k + 1)).countP p = (l.take k).countP p + if p (l.getD k lnNo) then 1 else 0 := by
  rw [take_snocD lnNo l k hk, List.countP_append, List.countP_singleton]
end Pl
def VKa (b0 : Nat) (p : Nat) (o : Nat) (vc : Nat) (k : Nat) (b : Pl.Bl) (x : Pl.Ln) (y : Pl.Ln) : Nat → Value → World → Prop
  | 0, vv, _ => vv = .pointer (some ⟨b0, 2, none⟩)
  | 1, vv, _ => vv = .slice (some ⟨p, o, none⟩) b.lines.length vc
  | 2, vv, _ => vv = .int .i64 (k : Int)
  | 3, vv, _ => vv = .pointer (some ⟨p, o + k * 2, none⟩)
  | 4, vv, _ => vv = .pointer (some ⟨p, o + k * 2, none⟩)
  | 5, vv, _ => vv = .string y.key
  | 6, vv, _ => vv = .pointer (some ⟨(b0 + 1), 0, none⟩)
  | 7, vv, _ => vv = .string x.key
  | 8, vv, _ => vv = .bool (y.key.toList == x.key.toList)
  | _, _, _ => True
theorem VKa_mono (b0 : Nat) (p : Nat) (o : Nat) (vc : Nat) (k : Nat) (b : Pl.Bl) (x : Pl.Ln) (y : Pl.Ln) : ∀ jj vv W W', Below W.heap.size W W' → VKa b0 p o vc k b x y jj vv W → VKa b0 p o vc k b x y jj vv W' := by
  intro jj vv W W' hb h
  match jj with
  | 0 => exact h
  | 1 => exact h
  | 2 => exact h
  | 3 => exact h
  | 4 => exact h
  | 5 => exact h
  | 6 => exact h
  | 7 => exact h
  | 8 => exact h
  | n + 9 => exact trivial
def VKb (b0 : Nat) (p : Nat) (o : Nat) (vc : Nat) (k : Nat) (b : Pl.Bl) (x : Pl.Ln) (y : Pl.Ln) (wa : Option Addr) (ya : Option Addr) (wc : Nat) (yc : Nat) : Nat → Value → World → Prop
  | 0, vv, _ => vv = .pointer (some ⟨b0, 2, none⟩)
  | 1, vv, _ => vv = .slice (some ⟨p, o, none⟩) b.lines.length vc
  | 2, vv, _ => vv = .int .i64 (k : Int)
  | 3, vv, _ => vv = .pointer (some ⟨p, o + k * 2, none⟩)
  | 4, vv, _ => vv = .pointer (some ⟨p, o + k * 2 + 1, none⟩)
  | 5, vv, _ => vv = .slice ya y.ws.length yc
  | 6, vv, _ => vv = .pointer (some ⟨(b0 + 1), 1, none⟩)
  | 7, vv, _ => vv = .slice wa x.ws.length wc
  | 8, vv, _ => vv = .bool (Pl.wordsEq y.ws x.ws)
  | _, _, _ => True
theorem VKb_mono (b0 : Nat) (p : Nat) (o : Nat) (vc : Nat) (k : Nat) (b : Pl.Bl) (x : Pl.Ln) (y : Pl.Ln) (wa : Option Addr) (ya : Option Addr) (wc : Nat) (yc : Nat) : ∀ jj vv W W', Below W.heap.size W W' → VKb b0 p o vc k b x y wa ya wc yc jj vv W → VKb b0 p o vc k b x y wa ya wc yc jj vv W' := by
  intro jj vv W W' hb h
  match jj with
  | 0 => exact h
  | 1 => exact h
  | 2 => exact h
  | 3 => exact h
  | 4 => exact h
  | 5 => exact h
  | 6 => exact h
  | 7 => exact h
  | 8 => exact h
  | n + 9 => exact trivial

set_option maxRecDepth 8000 in
set_option maxHeartbeats 16000000 in
theorem l39KeyS (b : Pl.Bl) (x : Pl.Ln) (lv wv : Value) (w : World) (h : Raw w shLns [lnsD b.lines] [lv]) (hx : Raw w shTxs [.row x.ws.length (txD x.ws)] [wv]) (hl : b.lines.length ≤ 4194304) :
    Calls Tryz.prog 26 #[.agg #[.string b.kind, .string b.name, lv], .agg #[.string x.key, wv]] w fun e w' => e = .returned (.tuple #[.int .i64 (Pl.keyCnt b.lines x.key : Nat), .int .i64 (Pl.sameCnt b.lines x : Nat)]) ∧ Below w.heap.size w w' := by
  have HL := uh h
  have HX := uh hx
  obtain ⟨va, vc, ev⟩ := h.len0
  subst ev
  obtain ⟨wa, wc, ev⟩ := hx.len0
  subst ev
  clear h hx
  obtain ⟨w0, hw0⟩ : ∃ w0, w0 = (w.alloc (.cells #[.string b.kind, .string b.name, .slice va b.lines.length vc] 37)).alloc (.cells #[.string x.key, .slice wa x.ws.length wc] 62) := ⟨_, rfl⟩
  obtain ⟨b0, hb0⟩ : ∃ b0, b0 = w.heap.size := ⟨_, rfl⟩
  have HB : Hid (Below w.heap.size w w0) := by show Below _ _ _; rw [hw0]; exact blw_alloc (blw_alloc (Below.refl _ _) _) _
  have HUB : Hid (LBox w0 b0 [.string b.kind, .string b.name, .slice va b.lines.length vc]) := by show LBox _ _ _; rw [hw0, hb0]; exact (LBox.new w #[.string b.kind, .string b.name, .slice va b.lines.length vc] _ _ rfl).past _
  have HOB : Hid (LBox w0 (b0 + 1) [.string x.key, .slice wa x.ws.length wc]) := by show LBox _ _ _; rw [hw0, hb0]; exact LBox.new (w.alloc (.cells #[.string b.kind, .string b.name, .slice va b.lines.length vc] 37)) #[.string x.key, .slice wa x.ws.length wc] _ _ (by simp)
  go_enter Tryz.func26, Tryz.ntmps26
  go_upto_region 1 with fail
  rw [← hw0, ← hb0]
  clear hw0 hb0
  have HU0 := HUB
  have HO0 := HOB
  have HB0 := HB
  go_wp2
  go_loopw [6, 7, 8] (fun v1 v2 vi wr => ∃ (k c1 c2 : Nat), k ≤ b.lines.length ∧ v1 = .int .i64 c1 ∧ v2 = .int .i64 c2 ∧ vi = .int .i64 k ∧ c1 = Pl.keyCnt (b.lines.take k) x.key ∧ c2 = (b.lines.take k).countP (fun y => (y.key.toList == x.key.toList) && Pl.wordsEq y.ws x.ws) ∧ Below w0.heap.size w0 wr) (fun _ _ vi _ => b.lines.length - (intOf vi).toNat)
  case atStart => exact ⟨0, 0, 0, Nat.zero_le _, rfl, rfl, rfl, rfl, rfl, Below.refl _ _⟩
  case round =>
    obtain ⟨k, c1, c2, hk, rfl, rfl, rfl, h1, h2, hB⟩ := hrel
    replace HUB := uh (HU0.out.later hB)
    replace HOB := uh (HO0.out.later hB)
    replace HB := uh hB
    have hc1 : c1 ≤ b.lines.length := by rw [h1]; have := List.countP_le_length (p := fun y => Pl.txEq y.key x.key) (l := b.lines.take k); rw [List.length_take] at this; unfold Pl.keyCnt; omega
    have hc2 : c2 ≤ b.lines.length := by rw [h2]; have := List.countP_le_length (p := fun y : Pl.Ln => (y.key.toList == x.key.toList) && Pl.wordsEq y.ws x.ws) (l := b.lines.take k); rw [List.length_take] at this; omega
    have HK1 := uh h1
    have HK2 := uh h2
    clear hB h1 h2
    have x2 := HUB.out.get 2 _ rfl
    have xl := HUB.out.lt
    by_cases hlt : k < b.lines.length
    rotate_left
    · have hks : b.lines.take k = b.lines := List.take_of_length_le (by omega)
      rw [hks] at HK1 HK2
      obtain rfl : k = b.lines.length := by omega
      have hnlt : ¬ ((b.lines.length : Int) < (b.lines.length : Int)) := by omega
      have HEN : Hid (Pl.keyCnt b.lines x.key = c1 ∧ Pl.sameCnt b.lines x = c2) := ⟨HK1.out.symm, HK2.out.symm⟩
      go_wp2
      go_ret2
      rw [HEN.out.1, HEN.out.2]
      exact ⟨rfl, blw_trans HB0.out HB.out⟩
    rcases lns_open ((HL.out.later HB0.out).later HB.out) with ⟨e0, _⟩ | ⟨p, o, c, hv, hp, hml, hopen⟩
    · omega
    injection hv with g1 g2 g3
    subst g1; subst g3
    obtain ⟨ya, yc, hgx, hrx⟩ := hopen k hlt
    have HS1 : Hid (Pl.keyCnt (b.lines.take (k + 1)) x.key = c1 + if Pl.txEq (b.lines.getD k Pl.lnNo).key x.key then 1 else 0) := by show _ = _; rw [HK1.out]; exact Pl.cnt_step hlt
    have HS2 : Hid (((b.lines.take (k + 1)).countP fun y => (y.key.toList == x.key.toList) && Pl.wordsEq y.ws x.ws) = c2 + if ((b.lines.getD k Pl.lnNo).key.toList == x.key.toList) && Pl.wordsEq (b.lines.getD k Pl.lnNo).ws x.ws then 1 else 0) := by show _ = _; rw [HK2.out]; exact Pl.cnt_step hlt
    obtain ⟨y, hy⟩ : ∃ y, y = b.lines.getD k Pl.lnNo := ⟨_, rfl⟩
    rw [← hy] at hgx hrx HS1 HS2
    have HCW := uh (fun (X : World) (hX : Below wr.heap.size wr X) => l39WordsS y.ws x.ws (.slice ya y.ws.length yc) (.slice wa x.ws.length wc) X (hrx.later hX) (((HX.out.later HB0.out).later HB.out).later hX))
    have HGX := uh hgx
    have HPZ := uh hp
    have hk0 : (0 : Int) ≤ (k : Int) := by omega
    have hkn : (k : Int) < (b.lines.length : Int) := by omega
    clear hy hgx hrx hp hml hopen HK1 HK2
    go_upto_region 6 with fail
    clear x2 xl
    refine RY.region_past wr (Below.refl _ _) (VKa b0 p o vc k b x y) (VKa_mono _ _ _ _ _ _ _ _) (by kernel_rfl) (by kernel_rfl) (by kernel_rfl) (by kernel_rfl) ?_ ?_
    · intro ii o' ho a X hX hk hd
      have zb0 := HUB.out.later hX
      have zb0l := zb0.lt
      have z_b0___1_ := HOB.out.later hX
      have z_b0___1_l := z_b0___1_.lt
      match ii, ho with
      | 0, ho =>
        injection ho with ho; subst ho
        have e2 : a.tmps[2]?.getD undef = .pointer (some ⟨b0, 0, none⟩) := (RY.ev_tmp a 2).trans ((hk 2 (by kernel_rfl)).trans rfl)
        exact Or.inl ⟨.pointer (some ⟨b0, 2, none⟩), X, by simp [execOp, go_sem, e2], Below.refl _ _, rfl⟩
      | 1, ho =>
        injection ho with ho; subst ho
        have e16 : a.tmps[16]?.getD undef = .pointer (some ⟨b0, 2, none⟩) := (RY.ev_tmp a 16).trans (hd 0 _ 16 rfl rfl ⟨⟨0, .data⟩, by simp, rfl, rfl⟩)
        have ycl_ := zb0.get 2 _ rfl
        exact Or.inl ⟨.slice (some ⟨p, o, none⟩) b.lines.length vc, X, by simp [execOp, go_sem, e16, ycl_], Below.refl _ _, rfl⟩
      | 2, ho =>
        injection ho with ho; subst ho
        have e8 : a.tmps[8]?.getD undef = .int .i64 (k : Int) := (RY.ev_tmp a 8).trans ((hk 8 (by kernel_rfl)).trans rfl)
        exact Or.inl ⟨.int .i64 (k : Int), X, by simp [execOp, go_sem, e8], Below.refl _ _, rfl⟩
      | 3, ho =>
        injection ho with ho; subst ho
        have e17 : a.tmps[17]?.getD undef = .slice (some ⟨p, o, none⟩) b.lines.length vc := (RY.ev_tmp a 17).trans (hd 1 _ 17 rfl rfl ⟨⟨1, .data⟩, by simp, rfl, rfl⟩)
        have e18 : a.tmps[18]?.getD undef = .int .i64 (k : Int) := (RY.ev_tmp a 18).trans (hd 2 _ 18 rfl rfl ⟨⟨2, .data⟩, by simp, rfl, rfl⟩)
        exact Or.inl ⟨.pointer (some ⟨p, o + k * 2, none⟩), X, by simp [execOp, go_sem, e17, e18, hk0, hkn], Below.refl _ _, rfl⟩
      | 4, ho =>
        injection ho with ho; subst ho
        have e19 : a.tmps[19]?.getD undef = .pointer (some ⟨p, o + k * 2, none⟩) := (RY.ev_tmp a 19).trans (hd 3 _ 19 rfl rfl ⟨⟨3, .data⟩, by simp, rfl, rfl⟩)
        exact Or.inl ⟨.pointer (some ⟨p, o + k * 2, none⟩), X, by simp [execOp, go_sem, e19], Below.refl _ _, rfl⟩
      | 5, ho =>
        injection ho with ho; subst ho
        have e20 : a.tmps[20]?.getD undef = .pointer (some ⟨p, o + k * 2, none⟩) := (RY.ev_tmp a 20).trans (hd 4 _ 20 rfl rfl ⟨⟨4, .data⟩, by simp, rfl, rfl⟩)
        have ypl_ := Nat.lt_of_lt_of_le HPZ.out hX.size
        have ycl_ : X.cell? ⟨p, o + k * 2, none⟩ = some (.string y.key) := by have q := rA_get (rA_later HGX.out HPZ.out hX) 0 _ rfl; simpa using q
        exact Or.inl ⟨.string y.key, X, by simp [execOp, go_sem, e20, ycl_], Below.refl _ _, rfl⟩
      | 6, ho =>
        injection ho with ho; subst ho
        have e3 : a.tmps[3]?.getD undef = .pointer (some ⟨(b0 + 1), 0, none⟩) := (RY.ev_tmp a 3).trans ((hk 3 (by kernel_rfl)).trans rfl)
        exact Or.inl ⟨.pointer (some ⟨(b0 + 1), 0, none⟩), X, by simp [execOp, go_sem, e3], Below.refl _ _, rfl⟩
      | 7, ho =>
        injection ho with ho; subst ho
        have e22 : a.tmps[22]?.getD undef = .pointer (some ⟨(b0 + 1), 0, none⟩) := (RY.ev_tmp a 22).trans (hd 6 _ 22 rfl rfl ⟨⟨6, .data⟩, by simp, rfl, rfl⟩)
        have ycl_ := z_b0___1_.get 0 _ rfl
        exact Or.inl ⟨.string x.key, X, by simp [execOp, go_sem, e22, ycl_], Below.refl _ _, rfl⟩
      | 8, ho =>
        injection ho with ho; subst ho
        have e21 : a.tmps[21]?.getD undef = .string y.key := (RY.ev_tmp a 21).trans (hd 5 _ 21 rfl rfl ⟨⟨5, .data⟩, by simp, rfl, rfl⟩)
        have e23 : a.tmps[23]?.getD undef = .string x.key := (RY.ev_tmp a 23).trans (hd 7 _ 23 rfl rfl ⟨⟨7, .data⟩, by simp, rfl, rfl⟩)
        exact Or.inl ⟨.bool (y.key.toList == x.key.toList), X, by simp [execOp, go_sem, e21, e23], Below.refl _ _, rfl⟩
      | n + 9, ho => simp at ho
    intro X vs hX hvs
    have q24 : vs 24 = _ := hvs 8 _ 24 rfl rfl
    simp only [RY.putAll, Act.put, List.setIfInBounds_toArray, List.set_cons_zero, List.set_cons_succ]
    rw [q24]
    generalize vs 16 = s16
    generalize vs 17 = s17
    generalize vs 18 = s18
    generalize vs 19 = s19
    generalize vs 20 = s20
    generalize vs 21 = s21
    generalize vs 22 = s22
    generalize vs 23 = s23
    clear hvs q24
    replace HB := uh (blw_trans HB.out hX)
    replace HUB := uh (HUB.out.later hX)
    replace HOB := uh (HOB.out.later hX)
    replace HGX := uh (rA_later HGX.out HPZ.out hX)
    replace HPZ := uh (Nat.lt_of_lt_of_le HPZ.out hX.size)
    replace HCW := uh (fun (Y : World) (hY : Below X.heap.size X Y) => HCW.out Y (blw_trans hX hY))
    clear hX
    cases hq : (y.key.toList == x.key.toList)
    · have HKN : Hid (c1 = Pl.keyCnt (b.lines.take (k + 1)) x.key) := by show _ = _; have hq2 : Pl.txEq y.key x.key = _ := hq; rw [HS1.out, hq2]; rfl
      have HKS : Hid (c2 = (b.lines.take (k + 1)).countP fun y => (y.key.toList == x.key.toList) && Pl.wordsEq y.ws x.ws) := by show _ = _; rw [HS2.out, hq]; rfl
      go_wp2
      go_roundw
      case rel => exact ⟨k + 1, c1, c2, by omega, by go_num, by go_num, by go_num, HKN.out, HKS.out, HB.out⟩
      case measure => simp [intOf]; omega
    have HKN : Hid (c1 + 1 = Pl.keyCnt (b.lines.take (k + 1)) x.key) := by show _ = _; have hq2 : Pl.txEq y.key x.key = _ := hq; rw [HS1.out, hq2]; rfl
    obtain ⟨W1, hW1⟩ : ∃ W1, W1 = X := ⟨_, rfl⟩
    rw [← hW1] at HB HUB HOB HGX HPZ HCW ⊢
    clear hW1
    go_upto_region 8 with fail
    refine RY.region_past W1 (Below.refl _ _) (VKb b0 p o vc k b x y wa ya wc yc) (VKb_mono _ _ _ _ _ _ _ _ _ _ _ _) (by kernel_rfl) (by kernel_rfl) (by kernel_rfl) (by kernel_rfl) ?_ ?_
    · intro ii o' ho a X hX hk hd
      have zb0 := HUB.out.later hX
      have zb0l := zb0.lt
      have z_b0___1_ := HOB.out.later hX
      have z_b0___1_l := z_b0___1_.lt
      match ii, ho with
      | 0, ho =>
        injection ho with ho; subst ho
        have e2 : a.tmps[2]?.getD undef = .pointer (some ⟨b0, 0, none⟩) := (RY.ev_tmp a 2).trans ((hk 2 (by kernel_rfl)).trans rfl)
        exact Or.inl ⟨.pointer (some ⟨b0, 2, none⟩), X, by simp [execOp, go_sem, e2], Below.refl _ _, rfl⟩
      | 1, ho =>
        injection ho with ho; subst ho
        have e27 : a.tmps[27]?.getD undef = .pointer (some ⟨b0, 2, none⟩) := (RY.ev_tmp a 27).trans (hd 0 _ 27 rfl rfl ⟨⟨0, .data⟩, by simp, rfl, rfl⟩)
        have ycl_ := zb0.get 2 _ rfl
        exact Or.inl ⟨.slice (some ⟨p, o, none⟩) b.lines.length vc, X, by simp [execOp, go_sem, e27, ycl_], Below.refl _ _, rfl⟩
      | 2, ho =>
        injection ho with ho; subst ho
        have e8 : a.tmps[8]?.getD undef = .int .i64 (k : Int) := (RY.ev_tmp a 8).trans ((hk 8 (by kernel_rfl)).trans rfl)
        exact Or.inl ⟨.int .i64 (k : Int), X, by simp [execOp, go_sem, e8], Below.refl _ _, rfl⟩
      | 3, ho =>
        injection ho with ho; subst ho
        have e28 : a.tmps[28]?.getD undef = .slice (some ⟨p, o, none⟩) b.lines.length vc := (RY.ev_tmp a 28).trans (hd 1 _ 28 rfl rfl ⟨⟨1, .data⟩, by simp, rfl, rfl⟩)
        have e29 : a.tmps[29]?.getD undef = .int .i64 (k : Int) := (RY.ev_tmp a 29).trans (hd 2 _ 29 rfl rfl ⟨⟨2, .data⟩, by simp, rfl, rfl⟩)
        exact Or.inl ⟨.pointer (some ⟨p, o + k * 2, none⟩), X, by simp [execOp, go_sem, e28, e29, hk0, hkn], Below.refl _ _, rfl⟩
      | 4, ho =>
        injection ho with ho; subst ho
        have e30 : a.tmps[30]?.getD undef = .pointer (some ⟨p, o + k * 2, none⟩) := (RY.ev_tmp a 30).trans (hd 3 _ 30 rfl rfl ⟨⟨3, .data⟩, by simp, rfl, rfl⟩)
        exact Or.inl ⟨.pointer (some ⟨p, o + k * 2 + 1, none⟩), X, by simp [execOp, go_sem, e30], Below.refl _ _, rfl⟩
      | 5, ho =>
        injection ho with ho; subst ho
        have e31 : a.tmps[31]?.getD undef = .pointer (some ⟨p, o + k * 2 + 1, none⟩) := (RY.ev_tmp a 31).trans (hd 4 _ 31 rfl rfl ⟨⟨4, .data⟩, by simp, rfl, rfl⟩)
        have ypl_ := Nat.lt_of_lt_of_le HPZ.out hX.size
        have ycl_ : X.cell? ⟨p, o + k * 2 + 1, none⟩ = some (.slice ya y.ws.length yc) := by have q := rA_get (rA_later HGX.out HPZ.out hX) 1 _ rfl; simpa using q
        exact Or.inl ⟨.slice ya y.ws.length yc, X, by simp [execOp, go_sem, e31, ycl_], Below.refl _ _, rfl⟩
      | 6, ho =>
        injection ho with ho; subst ho
        have e3 : a.tmps[3]?.getD undef = .pointer (some ⟨(b0 + 1), 0, none⟩) := (RY.ev_tmp a 3).trans ((hk 3 (by kernel_rfl)).trans rfl)
        exact Or.inl ⟨.pointer (some ⟨(b0 + 1), 1, none⟩), X, by simp [execOp, go_sem, e3], Below.refl _ _, rfl⟩
      | 7, ho =>
        injection ho with ho; subst ho
        have e33 : a.tmps[33]?.getD undef = .pointer (some ⟨(b0 + 1), 1, none⟩) := (RY.ev_tmp a 33).trans (hd 6 _ 33 rfl rfl ⟨⟨6, .data⟩, by simp, rfl, rfl⟩)
        have ycl_ := z_b0___1_.get 1 _ rfl
        exact Or.inl ⟨.slice wa x.ws.length wc, X, by simp [execOp, go_sem, e33, ycl_], Below.refl _ _, rfl⟩
      | 8, ho =>
        injection ho with ho; subst ho
        have e32 : a.tmps[32]?.getD undef = .slice ya y.ws.length yc := (RY.ev_tmp a 32).trans (hd 5 _ 32 rfl rfl ⟨⟨5, .data⟩, by simp, rfl, rfl⟩)
        have e34 : a.tmps[34]?.getD undef = .slice wa x.ws.length wc := (RY.ev_tmp a 34).trans (hd 7 _ 34 rfl rfl ⟨⟨7, .data⟩, by simp, rfl, rfl⟩)
        refine Or.inr ⟨45, #[.slice ya y.ws.length yc, .slice wa x.ws.length wc], by simp [go_sem, e32, e34], (HCW.out X hX).mono ?_⟩
        rintro e W' ⟨rfl, hb⟩
        exact ⟨_, rfl, hb, rfl⟩
      | n + 9, ho => simp at ho
    intro X vs hX hvs
    have q35 : vs 35 = _ := hvs 8 _ 35 rfl rfl
    simp only [RY.putAll, Act.put, List.setIfInBounds_toArray, List.set_cons_zero, List.set_cons_succ]
    rw [q35]
    generalize vs 27 = s27
    generalize vs 28 = s28
    generalize vs 29 = s29
    generalize vs 30 = s30
    generalize vs 31 = s31
    generalize vs 32 = s32
    generalize vs 33 = s33
    generalize vs 34 = s34
    clear hvs q35
    replace HB := uh (blw_trans HB.out hX)
    replace HUB := uh (HUB.out.later hX)
    replace HOB := uh (HOB.out.later hX)
    replace HGX := uh (rA_later HGX.out HPZ.out hX)
    replace HPZ := uh (Nat.lt_of_lt_of_le HPZ.out hX.size)
    clear hX
    cases hw : Pl.wordsEq y.ws x.ws
    · have HKS : Hid (c2 = (b.lines.take (k + 1)).countP fun y => (y.key.toList == x.key.toList) && Pl.wordsEq y.ws x.ws) := by show _ = _; rw [HS2.out, hq, hw]; rfl
      go_wp2
      go_roundw
      case rel => exact ⟨k + 1, c1 + 1, c2, by omega, by go_num, by go_num, by go_num, HKN.out, HKS.out, HB.out⟩
      case measure => simp [intOf]; omega
    have HKS : Hid (c2 + 1 = (b.lines.take (k + 1)).countP fun y => (y.key.toList == x.key.toList) && Pl.wordsEq y.ws x.ws) := by show _ = _; rw [HS2.out, hq, hw]; rfl
    go_wp2
    go_roundw
    case rel => exact ⟨k + 1, c1 + 1, c2 + 1, by omega, by go_num, by go_num, by go_num, HKN.out, HKS.out, HB.out⟩
    case measure => simp [intOf]; omega

end Go.Proofs.YtdllbcafbfkngaaGreatDoor
