/-
  Sheets: lines of a block that are ok: the specification.
-/
import Derived.BigFrame
import Derived.Test.YtojcopamegmeeaaELa
import Derived.Test.YtojcopamegmeeaaRgG
import Derived.Test.YtojcopamegmeeaaUC
namespace Go.Proofs.Ytojcopamegmeeaa
open Go.RowKit Go.Deep

theorem fits_ix {kind key : ByteArray} {ws : List ByteArray} (h : Pl.sheetFits kind key ws = true) : ∃ j, Pl.ruIx (Pl.rulesOf kind) key = some j ∧ j < (Pl.rulesOf kind).length := by
  unfold Pl.sheetFits at h
  cases e : Pl.ruIx (Pl.rulesOf kind) key with
  | none => rw [e] at h; cases h
  | some j => exact ⟨j, rfl, Pl.ruIx_lt e⟩
theorem lns_later {W X : World} {L : List Pl.Ln} {p o : Nat} (h : ∀ k, k < L.length → ∃ a c', W.rangeAt p (o + k * 2) [.string (L.getD k Pl.lnNo).key, .slice a (L.getD k Pl.lnNo).ws.length c'] ∧ Raw W shTxs [.row (L.getD k Pl.lnNo).ws.length (txD (L.getD k Pl.lnNo).ws)] [.slice a (L.getD k Pl.lnNo).ws.length c']) (hp : p < W.heap.size) (hX : Below W.heap.size W X) :
    ∀ k, k < L.length → ∃ a c', X.rangeAt p (o + k * 2) [.string (L.getD k Pl.lnNo).key, .slice a (L.getD k Pl.lnNo).ws.length c'] ∧ Raw X shTxs [.row (L.getD k Pl.lnNo).ws.length (txD (L.getD k Pl.lnNo).ws)] [.slice a (L.getD k Pl.lnNo).ws.length c'] := fun k hk => by
  obtain ⟨a, c', h1, h2⟩ := h k hk
  exact ⟨a, c', rA_later h1 hp hX, h2.later hX⟩
theorem cnt_take {L : List Pl.Ln} {i : Nat} (h : i < L.length) (key : ByteArray) : Pl.keyCnt (L.take (i + 1)) key = Pl.keyCnt (L.take i) key + if Pl.txEq (L.getD i Pl.lnNo).key key then 1 else 0 := by
  have e : L.getD i Pl.lnNo = L[i] := by simp [h]
  unfold Pl.keyCnt
  rw [List.take_succ_eq_append_getElem h, List.countP_append, ← e]
  simp [List.countP_cons]
def VLf (kd : ByteArray) (x : Pl.Ln) (ax : Option Addr) (cx : Nat) (p : Nat) (o : Nat) (n : Nat) (vc : Nat) (k : Nat) : Nat → Value → World → Prop
  | 0, u, _ => u = .string kd
  | 1, u, _ => u = .slice (some ⟨p, o, none⟩) n vc
  | 2, u, _ => u = .int .i64 (k : Int)
  | 3, u, _ => u = .pointer (some ⟨p, o + k * 2, none⟩)
  | 4, u, _ => u = .pointer (some ⟨p, o + k * 2, none⟩)
  | 5, u, _ => u = .string x.key
  | 6, u, _ => u = .slice (some ⟨p, o, none⟩) n vc
  | 7, u, _ => u = .int .i64 (k : Int)
  | 8, u, _ => u = .pointer (some ⟨p, o + k * 2, none⟩)
  | 9, u, _ => u = .pointer (some ⟨p, o + k * 2 + 1, none⟩)
  | 10, u, _ => u = .slice ax x.ws.length cx
  | 11, u, _ => u = .bool false
  | 12, u, _ => u = .bool true
  | 13, u, _ => u = .bool true
  | 14, u, _ => u = undef
  | 15, u, _ => u = undef
  | 16, u, _ => u = undef
  | 17, u, _ => u = undef
  | 18, u, _ => u = undef
  | 19, u, _ => u = undef
  | 20, u, _ => u = undef
  | 21, u, _ => u = undef
  | 22, u, _ => u = undef
  | 23, u, _ => u = undef
  | 24, u, _ => u = undef
  | 25, u, _ => u = undef
  | 26, u, _ => u = undef
  | 27, u, _ => u = undef
  | 28, u, _ => u = undef
  | 29, u, _ => u = undef
  | 30, u, _ => u = .bool true
  | _, _, _ => True
theorem VLf_mono (kd : ByteArray) (x : Pl.Ln) (ax : Option Addr) (cx : Nat) (p : Nat) (o : Nat) (n : Nat) (vc : Nat) (k : Nat) : ∀ jj u W W', Below W.heap.size W W' → VLf kd x ax cx p o n vc k jj u W → VLf kd x ax cx p o n vc k jj u W' := by
  intro jj u W W' hb h
  match jj with
  | 0 => exact h
  | 1 => exact h
  | 2 => exact h
  | 3 => exact h
  | 4 => exact h
  | 5 => exact h
  | 6 => exact h
  | 7 => exact h
  | 8 => exact h
  | 9 => exact h
  | 10 => exact h
  | 11 => exact h
  | 12 => exact h
  | 13 => exact h
  | 14 => exact h
  | 15 => exact h
  | 16 => exact h
  | 17 => exact h
  | 18 => exact h
  | 19 => exact h
  | 20 => exact h
  | 21 => exact h
  | 22 => exact h
  | 23 => exact h
  | 24 => exact h
  | 25 => exact h
  | 26 => exact h
  | 27 => exact h
  | 28 => exact h
  | 29 => exact h
  | 30 => exact h
  | n + 31 => exact trivial
def VLz (kd : ByteArray) (x : Pl.Ln) (ax : Option Addr) (cx : Nat) (p : Nat) (o : Nat) (n : Nat) (vc : Nat) (k : Nat) : Nat → Value → World → Prop
  | 0, u, _ => u = .string kd
  | 1, u, _ => u = .slice (some ⟨p, o, none⟩) n vc
  | 2, u, _ => u = .int .i64 (k : Int)
  | 3, u, _ => u = .pointer (some ⟨p, o + k * 2, none⟩)
  | 4, u, _ => u = .pointer (some ⟨p, o + k * 2, none⟩)
  | 5, u, _ => u = .string x.key
  | 6, u, _ => u = .slice (some ⟨p, o, none⟩) n vc
  | 7, u, _ => u = .int .i64 (k : Int)
  | 8, u, _ => u = .pointer (some ⟨p, o + k * 2, none⟩)
  | 9, u, _ => u = .pointer (some ⟨p, o + k * 2 + 1, none⟩)
  | 10, u, _ => u = .slice ax x.ws.length cx
  | 11, u, _ => u = .bool true
  | 12, u, _ => u = .bool false
  | 13, u, _ => u = .bool false
  | 14, u, _ => u = .int .i64 (k : Int)
  | 15, u, _ => u = .bool false
  | 16, u, _ => u = .bool false
  | 17, u, _ => u = undef
  | 18, u, _ => u = undef
  | 19, u, _ => u = undef
  | 20, u, _ => u = undef
  | 21, u, _ => u = undef
  | 22, u, _ => u = undef
  | 23, u, _ => u = undef
  | 24, u, _ => u = undef
  | 25, u, _ => u = undef
  | 26, u, _ => u = undef
  | 27, u, _ => u = undef
  | 28, u, _ => u = undef
  | 29, u, _ => u = .bool false
  | 30, u, _ => u = .bool false
  | _, _, _ => True
theorem VLz_mono (kd : ByteArray) (x : Pl.Ln) (ax : Option Addr) (cx : Nat) (p : Nat) (o : Nat) (n : Nat) (vc : Nat) (k : Nat) : ∀ jj u W W', Below W.heap.size W W' → VLz kd x ax cx p o n vc k jj u W → VLz kd x ax cx p o n vc k jj u W' := by
  intro jj u W W' hb h
  match jj with
  | 0 => exact h
  | 1 => exact h
  | 2 => exact h
  | 3 => exact h
  | 4 => exact h
  | 5 => exact h
  | 6 => exact h
  | 7 => exact h
  | 8 => exact h
  | 9 => exact h
  | 10 => exact h
  | 11 => exact h
  | 12 => exact h
  | 13 => exact h
  | 14 => exact h
  | 15 => exact h
  | 16 => exact h
  | 17 => exact h
  | 18 => exact h
  | 19 => exact h
  | 20 => exact h
  | 21 => exact h
  | 22 => exact h
  | 23 => exact h
  | 24 => exact h
  | 25 => exact h
  | 26 => exact h
  | 27 => exact h
  | 28 => exact h
  | 29 => exact h
  | 30 => exact h
  | n + 31 => exact trivial
def VLp (kd : ByteArray) (x : Pl.Ln) (y : Pl.Ln) (ax : Option Addr) (ay : Option Addr) (cx : Nat) (cy : Nat) (p : Nat) (o : Nat) (n : Nat) (vc : Nat) (k : Nat) (b : Bool) : Nat → Value → World → Prop
  | 0, u, _ => u = .string kd
  | 1, u, _ => u = .slice (some ⟨p, o, none⟩) n vc
  | 2, u, _ => u = .int .i64 (k : Int)
  | 3, u, _ => u = .pointer (some ⟨p, o + k * 2, none⟩)
  | 4, u, _ => u = .pointer (some ⟨p, o + k * 2, none⟩)
  | 5, u, _ => u = .string x.key
  | 6, u, _ => u = .slice (some ⟨p, o, none⟩) n vc
  | 7, u, _ => u = .int .i64 (k : Int)
  | 8, u, _ => u = .pointer (some ⟨p, o + k * 2, none⟩)
  | 9, u, _ => u = .pointer (some ⟨p, o + k * 2 + 1, none⟩)
  | 10, u, _ => u = .slice ax x.ws.length cx
  | 11, u, _ => u = .bool true
  | 12, u, _ => u = .bool false
  | 13, u, _ => u = .bool false
  | 14, u, _ => u = .int .i64 (k : Int)
  | 15, u, _ => u = .bool true
  | 16, u, _ => u = .bool true
  | 17, u, _ => u = .string kd
  | 18, u, _ => u = .slice (some ⟨p, o, none⟩) n vc
  | 19, u, _ => u = .int .i64 (k : Int)
  | 20, u, _ => u = .int .i64 ((k : Int) - 1)
  | 21, u, _ => u = .pointer (some ⟨p, o + (k - 1) * 2, none⟩)
  | 22, u, _ => u = .agg #[.string y.key, .slice ay y.ws.length cy]
  | 23, u, _ => u = .slice (some ⟨p, o, none⟩) n vc
  | 24, u, _ => u = .int .i64 (k : Int)
  | 25, u, _ => u = .pointer (some ⟨p, o + k * 2, none⟩)
  | 26, u, _ => u = .agg #[.string x.key, .slice ax x.ws.length cx]
  | 27, u, _ => u = .bool b
  | 28, u, _ => u = .bool (!b)
  | 29, u, _ => u = .bool (!b)
  | 30, u, _ => u = .bool (!b)
  | _, _, _ => True
theorem VLp_mono (kd : ByteArray) (x : Pl.Ln) (y : Pl.Ln) (ax : Option Addr) (ay : Option Addr) (cx : Nat) (cy : Nat) (p : Nat) (o : Nat) (n : Nat) (vc : Nat) (k : Nat) (b : Bool) : ∀ jj u W W', Below W.heap.size W W' → VLp kd x y ax ay cx cy p o n vc k b jj u W → VLp kd x y ax ay cx cy p o n vc k b jj u W' := by
  intro jj u W W' hb h
  match jj with
  | 0 => exact h
  | 1 => exact h
  | 2 => exact h
  | 3 => exact h
  | 4 => exact h
  | 5 => exact h
  | 6 => exact h
  | 7 => exact h
  | 8 => exact h
  | 9 => exact h
  | 10 => exact h
  | 11 => exact h
  | 12 => exact h
  | 13 => exact h
  | 14 => exact h
  | 15 => exact h
  | 16 => exact h
  | 17 => exact h
  | 18 => exact h
  | 19 => exact h
  | 20 => exact h
  | 21 => exact h
  | 22 => exact h
  | 23 => exact h
  | 24 => exact h
  | 25 => exact h
  | 26 => exact h
  | 27 => exact h
  | 28 => exact h
  | 29 => exact h
  | 30 => exact h
  | n + 31 => exact trivial
def VLm (kd : ByteArray) (x : Pl.Ln) (p : Nat) (o : Nat) (n : Nat) (vc : Nat) (k : Nat) (j : Nat) (m : Nat) (mn : Bool) : Nat → Value → World → Prop
  | 0, u, _ => u = .string kd
  | 1, u, W => ∃ q oo cc, u = .slice (some ⟨q, oo, none⟩) m cc ∧ q < W.heap.size ∧ W.cell? ⟨q, oo + j * 4 + 2, none⟩ = some (.bool mn)
  | 2, u, _ => u = .string kd
  | 3, u, _ => u = .slice (some ⟨p, o, none⟩) n vc
  | 4, u, _ => u = .int .i64 (k : Int)
  | 5, u, _ => u = .pointer (some ⟨p, o + k * 2, none⟩)
  | 6, u, _ => u = .pointer (some ⟨p, o + k * 2, none⟩)
  | 7, u, _ => u = .string x.key
  | 8, u, _ => u = .int .i64 (j : Int)
  | 9, u, W => ∃ q oo, u = .pointer (some ⟨q, oo + j * 4, none⟩) ∧ q < W.heap.size ∧ W.cell? ⟨q, oo + j * 4 + 2, none⟩ = some (.bool mn)
  | 10, u, W => ∃ q oo, u = .pointer (some ⟨q, oo + j * 4 + 2, none⟩) ∧ q < W.heap.size ∧ W.cell? ⟨q, oo + j * 4 + 2, none⟩ = some (.bool mn)
  | 11, u, _ => u = .bool mn
  | 12, u, _ => u = .bool mn
  | _, _, _ => True
theorem VLm_mono (kd : ByteArray) (x : Pl.Ln) (p : Nat) (o : Nat) (n : Nat) (vc : Nat) (k : Nat) (j : Nat) (m : Nat) (mn : Bool) : ∀ jj u W W', Below W.heap.size W W' → VLm kd x p o n vc k j m mn jj u W → VLm kd x p o n vc k j m mn jj u W' := by
  intro jj u W W' hb h
  match jj with
  | 0 => exact h
  | 1 =>
    obtain ⟨q, oo, cc, e, hq, hc⟩ := h
    exact ⟨q, oo, cc, e, Nat.lt_of_lt_of_le hq hb.size, (hb.cell (p := ⟨q, oo + j * 4 + 2, none⟩) hq).trans hc⟩
  | 2 => exact h
  | 3 => exact h
  | 4 => exact h
  | 5 => exact h
  | 6 => exact h
  | 7 => exact h
  | 8 => exact h
  | 9 =>
    obtain ⟨q, oo, e, hq, hc⟩ := h
    exact ⟨q, oo, e, Nat.lt_of_lt_of_le hq hb.size, (hb.cell (p := ⟨q, oo + j * 4 + 2, none⟩) hq).trans hc⟩
  | 10 =>
    obtain ⟨q, oo, e, hq, hc⟩ := h
    exact ⟨q, oo, e, Nat.lt_of_lt_of_le hq hb.size, (hb.cell (p := ⟨q, oo + j * 4 + 2, none⟩) hq).trans hc⟩
  | 11 => exact h
  | 12 => exact h
  | n + 13 => exact trivial

set_option maxRecDepth 8000 in
set_option maxHeartbeats 16000000 in
theorem l39LinesOkS (kd : ByteArray) (L : List Pl.Ln) (v : Value) (w : World) (h : Raw w shLns [lnsD L] [v]) (hz : ∀ x ∈ L, ∀ s ∈ x.ws, s.size ≤ maxLen) :
    Calls Try.prog 30 #[.string kd, v] w fun e w' => e = .returned (.bool (Pl.linesOk kd L)) ∧ Below w.heap.size w w' := by
  have HL := uh h
  have HZ := uh hz
  obtain ⟨va, vc, ev⟩ := h.len0
  subst ev
  have HR : Hid (Pl.linesOk kd L = (List.range L.length).all (Pl.lineOkAt kd L)) := rfl
  clear h hz
  obtain ⟨n, hn⟩ : ∃ n, n = L.length := ⟨_, rfl⟩
  have HN := uh hn
  rw [← hn] at HR
  have hnn : L.length = n := hn.symm
  clear hn
  rw [hnn]
  go_enter Try.func30, Try.ntmps30
  clear hnn
  go_wp2
  go_loopw [5] (fun i wr => ∃ k : Nat, k ≤ n ∧ i = .int .i64 k ∧ Below w.heap.size w wr ∧ (List.range k).all (Pl.lineOkAt kd L) = true) (fun i _ => n - (intOf i).toNat)
  case atStart => exact ⟨0, Nat.zero_le _, rfl, Below.refl _ _, rfl⟩
  case round =>
    obtain ⟨k, hk, rfl, hW, hI⟩ := hrel
    have HW := uh hW
    have HI := uh hI
    clear hW hI
    by_cases hlt : k < n
    rotate_left
    · obtain rfl : k = n := by omega
      go_wp2
      go_ret
      exact ⟨Pl.ret_bool (by rw [HR.out, HI.out]), HW.out⟩
    have hkL : k < L.length := by have := HN.out; omega
    rcases lns_open (HL.out.later HW.out) with ⟨e0, _⟩ | ⟨p, o, c, hv, hp, hml, hopen⟩
    · omega
    rw [← HN.out] at hv hml
    injection hv with g1 _ g3
    subst g1; subst g3
    unfold maxLen at hml
    obtain ⟨ax, cx, hgx, hrx⟩ := hopen k hkL
    have HOP := uh hopen
    have HNO := uh (fun h => (HR.out.trans (Pl.rall_false hlt h)))
    have HOK : Hid (Pl.lineOkAt kd L k = (Pl.sheetFits kd (L.getD k Pl.lnNo).key (L.getD k Pl.lnNo).ws && (decide (k = 0) || Pl.lineLess kd (L.getD (k - 1) Pl.lnNo) (L.getD k Pl.lnNo)) && Pl.cntOk (Pl.manyOf kd (L.getD k Pl.lnNo).key) (Pl.keyCnt (L.take (k + 1)) (L.getD k Pl.lnNo).key))) := rfl
    obtain ⟨x, hx⟩ : ∃ x, x = L.getD k Pl.lnNo := ⟨_, rfl⟩
    have hxz : ∀ s ∈ x.ws, s.size ≤ maxLen := by
      have e : L.getD k Pl.lnNo = L[k] := by simp [hkL]
      rw [hx, e]; exact HZ.out _ (List.getElem_mem hkL)
    rw [← hx] at hgx hrx HOK
    have HGX := uh hgx
    have HRX := uh hrx
    have HP := uh hp
    have HX0 := uh hx
    have hk0 : (0 : Int) ≤ (k : Int) := by omega
    have hkn : (k : Int) < (n : Int) := by omega
    have HCFa := uh (fun (X : World) (hX : Below wr.heap.size wr X) => sheetFitsS kd x.key x.ws (.slice ax x.ws.length cx) X (HRX.out.later hX) hxz)
    have HFX := uh (fun h => @fits_ix kd x.key x.ws h)
    obtain ⟨fit, hfit⟩ : ∃ f, f = Pl.sheetFits kd x.key x.ws := ⟨_, rfl⟩
    rw [← hfit] at HCFa HOK HFX
    clear hfit hxz hx hgx hrx hopen
    cases fit
    · have HCF : Hid (∀ X : World, Below wr.heap.size wr X → Calls Try.prog 51 #[.string kd, .string x.key, .slice ax x.ws.length cx] X fun e w' => e = .returned (.bool false) ∧ Below X.heap.size X w') := HCFa.out
      have HCL : Hid (∀ X : World, Below wr.heap.size wr X → True) := fun _ _ => trivial
      obtain ⟨y, ay, cy, b⟩ : Pl.Ln × Option Addr × Nat × Bool := ⟨Pl.lnNo, none, 0, false⟩
      have HNF : Hid (Pl.linesOk kd L = false) := HNO.out (by rw [HOK.out]; rfl)
      go_upto_region 4 with fail
      refine RY.region_pastG wr (Below.refl _ _) (VLf kd x ax cx p o n vc k) (VLf_mono _ _ _ _ _ _ _ _ _) (by kernel_rfl) (by kernel_rfl) (by kernel_rfl) (by kernel_rfl) ?_ ?_
      · intro i o' ho a X hX hk hd
        have yx0 : X.cell? ⟨p, o + k * 2, none⟩ = some (.string x.key) := (hX.cell (p := ⟨p, o + k * 2, none⟩) HP.out).trans (rA_get HGX.out 0 _ rfl)
        have yx1 : X.cell? ⟨p, o + k * 2 + 1, none⟩ = some (.slice ax x.ws.length cx) := (hX.cell (p := ⟨p, o + k * 2 + 1, none⟩) HP.out).trans (rA_get HGX.out 1 _ rfl)
        have rx := rA_later HGX.out HP.out hX
        match i, ho with
        | 0, ho =>
          injection ho with ho; subst ho
          have e0 : a.tmps[0]?.getD undef = .string kd := (RY.ev_tmp a 0).trans ((hk 0 (by kernel_rfl)).trans rfl)
          exact Or.inl ⟨RY.wanted_no rfl, Or.inl ⟨.string kd, X, by simp [execOp, go_sem, e0], Below.refl _ _, rfl⟩⟩
        | 1, ho =>
          injection ho with ho; subst ho
          have e1 : a.tmps[1]?.getD undef = .slice (some ⟨p, o, none⟩) n vc := (RY.ev_tmp a 1).trans ((hk 1 (by kernel_rfl)).trans rfl)
          exact Or.inl ⟨RY.wanted_no rfl, Or.inl ⟨.slice (some ⟨p, o, none⟩) n vc, X, by simp [execOp, go_sem, e1], Below.refl _ _, rfl⟩⟩
        | 2, ho =>
          injection ho with ho; subst ho
          have e5 : a.tmps[5]?.getD undef = .int .i64 (k : Int) := (RY.ev_tmp a 5).trans ((hk 5 (by kernel_rfl)).trans rfl)
          exact Or.inl ⟨RY.wanted_no rfl, Or.inl ⟨.int .i64 (k : Int), X, by simp [execOp, go_sem, e5], Below.refl _ _, rfl⟩⟩
        | 3, ho =>
          injection ho with ho; subst ho
          have e16 : a.tmps[16]?.getD undef = _ := (RY.ev_tmp a 16).trans (hd 1 _ 16 rfl rfl ⟨⟨1, .data⟩, by simp, rfl, rfl⟩)
          have e17 : a.tmps[17]?.getD undef = _ := (RY.ev_tmp a 17).trans (hd 2 _ 17 rfl rfl ⟨⟨2, .data⟩, by simp, rfl, rfl⟩)
          exact Or.inl ⟨RY.wanted_no rfl, Or.inl ⟨.pointer (some ⟨p, o + k * 2, none⟩), X, by simp [execOp, go_sem, e16, e17, hk0, hkn], Below.refl _ _, rfl⟩⟩
        | 4, ho =>
          injection ho with ho; subst ho
          have e18 : a.tmps[18]?.getD undef = _ := (RY.ev_tmp a 18).trans (hd 3 _ 18 rfl rfl ⟨⟨3, .data⟩, by simp, rfl, rfl⟩)
          exact Or.inl ⟨RY.wanted_no rfl, Or.inl ⟨.pointer (some ⟨p, o + k * 2, none⟩), X, by simp [execOp, go_sem, e18], Below.refl _ _, rfl⟩⟩
        | 5, ho =>
          injection ho with ho; subst ho
          have e19 : a.tmps[19]?.getD undef = _ := (RY.ev_tmp a 19).trans (hd 4 _ 19 rfl rfl ⟨⟨4, .data⟩, by simp, rfl, rfl⟩)
          exact Or.inl ⟨RY.wanted_no rfl, Or.inl ⟨.string x.key, X, by simp [execOp, go_sem, e19, yx0], Below.refl _ _, rfl⟩⟩
        | 6, ho =>
          injection ho with ho; subst ho
          have e1 : a.tmps[1]?.getD undef = .slice (some ⟨p, o, none⟩) n vc := (RY.ev_tmp a 1).trans ((hk 1 (by kernel_rfl)).trans rfl)
          exact Or.inl ⟨RY.wanted_no rfl, Or.inl ⟨.slice (some ⟨p, o, none⟩) n vc, X, by simp [execOp, go_sem, e1], Below.refl _ _, rfl⟩⟩
        | 7, ho =>
          injection ho with ho; subst ho
          have e5 : a.tmps[5]?.getD undef = .int .i64 (k : Int) := (RY.ev_tmp a 5).trans ((hk 5 (by kernel_rfl)).trans rfl)
          exact Or.inl ⟨RY.wanted_no rfl, Or.inl ⟨.int .i64 (k : Int), X, by simp [execOp, go_sem, e5], Below.refl _ _, rfl⟩⟩
        | 8, ho =>
          injection ho with ho; subst ho
          have e21 : a.tmps[21]?.getD undef = _ := (RY.ev_tmp a 21).trans (hd 6 _ 21 rfl rfl ⟨⟨6, .data⟩, by simp, rfl, rfl⟩)
          have e22 : a.tmps[22]?.getD undef = _ := (RY.ev_tmp a 22).trans (hd 7 _ 22 rfl rfl ⟨⟨7, .data⟩, by simp, rfl, rfl⟩)
          exact Or.inl ⟨RY.wanted_no rfl, Or.inl ⟨.pointer (some ⟨p, o + k * 2, none⟩), X, by simp [execOp, go_sem, e21, e22, hk0, hkn], Below.refl _ _, rfl⟩⟩
        | 9, ho =>
          injection ho with ho; subst ho
          have e23 : a.tmps[23]?.getD undef = _ := (RY.ev_tmp a 23).trans (hd 8 _ 23 rfl rfl ⟨⟨8, .data⟩, by simp, rfl, rfl⟩)
          exact Or.inl ⟨RY.wanted_no rfl, Or.inl ⟨.pointer (some ⟨p, o + k * 2 + 1, none⟩), X, by simp [execOp, go_sem, e23], Below.refl _ _, rfl⟩⟩
        | 10, ho =>
          injection ho with ho; subst ho
          have e24 : a.tmps[24]?.getD undef = _ := (RY.ev_tmp a 24).trans (hd 9 _ 24 rfl rfl ⟨⟨9, .data⟩, by simp, rfl, rfl⟩)
          exact Or.inl ⟨RY.wanted_no rfl, Or.inl ⟨.slice ax x.ws.length cx, X, by simp [execOp, go_sem, e24, yx1], Below.refl _ _, rfl⟩⟩
        | 11, ho =>
          injection ho with ho; subst ho
          have e15 : a.tmps[15]?.getD undef = _ := (RY.ev_tmp a 15).trans (hd 0 _ 15 rfl rfl ⟨⟨0, .data⟩, by simp, rfl, rfl⟩)
          have e20 : a.tmps[20]?.getD undef = _ := (RY.ev_tmp a 20).trans (hd 5 _ 20 rfl rfl ⟨⟨5, .data⟩, by simp, rfl, rfl⟩)
          have e25 : a.tmps[25]?.getD undef = _ := (RY.ev_tmp a 25).trans (hd 10 _ 25 rfl rfl ⟨⟨10, .data⟩, by simp, rfl, rfl⟩)
          refine Or.inl ⟨RY.wanted_no rfl, Or.inr ⟨51, #[.string kd, .string x.key, .slice ax x.ws.length cx], by simp [go_sem, e15, e20, e25], (HCF.out X hX).mono ?_⟩⟩
          rintro e W' ⟨rfl, hb⟩
          exact ⟨_, rfl, hb, rfl⟩
        | 12, ho =>
          injection ho with ho; subst ho
          have e26 : a.tmps[26]?.getD undef = _ := (RY.ev_tmp a 26).trans (hd 11 _ 26 rfl rfl ⟨⟨11, .data⟩, by simp, rfl, rfl⟩)
          exact Or.inl ⟨RY.wanted_no rfl, Or.inl ⟨.bool true, X, by simp [execOp, go_sem, e26], Below.refl _ _, rfl⟩⟩
        | 13, ho =>
          injection ho with ho; subst ho
          have e27 : a.tmps[27]?.getD undef = _ := (RY.ev_tmp a 27).trans (hd 12 _ 27 rfl rfl ⟨⟨12, .data⟩, by simp, rfl, rfl⟩)
          exact Or.inl ⟨RY.wanted_no rfl, Or.inl ⟨.bool true, X, by simp [execOp, go_sem, e27], Below.refl _ _, rfl⟩⟩
        | 14, ho =>
          injection ho with ho; subst ho
          have gd := hd 13 _ 28 rfl rfl ⟨⟨13, .guard⟩, by simp, rfl, rfl⟩
          exact Or.inr ⟨(RY.wanted_at rfl rfl rfl gd).trans rfl, rfl⟩
        | 15, ho =>
          injection ho with ho; subst ho
          have gd := hd 13 _ 28 rfl rfl ⟨⟨13, .guard⟩, by simp, rfl, rfl⟩
          exact Or.inr ⟨(RY.wanted_at rfl rfl rfl gd).trans rfl, rfl⟩
        | 16, ho =>
          injection ho with ho; subst ho
          have gd := hd 13 _ 28 rfl rfl ⟨⟨13, .guard⟩, by simp, rfl, rfl⟩
          exact Or.inr ⟨(RY.wanted_at rfl rfl rfl gd).trans rfl, rfl⟩
        | 17, ho =>
          injection ho with ho; subst ho
          have gd := hd 16 _ 31 rfl rfl ⟨⟨16, .guard⟩, by simp, rfl, rfl⟩
          exact Or.inr ⟨RY.wanted_un rfl rfl rfl gd, rfl⟩
        | 18, ho =>
          injection ho with ho; subst ho
          have gd := hd 16 _ 31 rfl rfl ⟨⟨16, .guard⟩, by simp, rfl, rfl⟩
          exact Or.inr ⟨RY.wanted_un rfl rfl rfl gd, rfl⟩
        | 19, ho =>
          injection ho with ho; subst ho
          have gd := hd 16 _ 31 rfl rfl ⟨⟨16, .guard⟩, by simp, rfl, rfl⟩
          exact Or.inr ⟨RY.wanted_un rfl rfl rfl gd, rfl⟩
        | 20, ho =>
          injection ho with ho; subst ho
          have gd := hd 16 _ 31 rfl rfl ⟨⟨16, .guard⟩, by simp, rfl, rfl⟩
          exact Or.inr ⟨RY.wanted_un rfl rfl rfl gd, rfl⟩
        | 21, ho =>
          injection ho with ho; subst ho
          have gd := hd 16 _ 31 rfl rfl ⟨⟨16, .guard⟩, by simp, rfl, rfl⟩
          exact Or.inr ⟨RY.wanted_un rfl rfl rfl gd, rfl⟩
        | 22, ho =>
          injection ho with ho; subst ho
          have gd := hd 16 _ 31 rfl rfl ⟨⟨16, .guard⟩, by simp, rfl, rfl⟩
          exact Or.inr ⟨RY.wanted_un rfl rfl rfl gd, rfl⟩
        | 23, ho =>
          injection ho with ho; subst ho
          have gd := hd 16 _ 31 rfl rfl ⟨⟨16, .guard⟩, by simp, rfl, rfl⟩
          exact Or.inr ⟨RY.wanted_un rfl rfl rfl gd, rfl⟩
        | 24, ho =>
          injection ho with ho; subst ho
          have gd := hd 16 _ 31 rfl rfl ⟨⟨16, .guard⟩, by simp, rfl, rfl⟩
          exact Or.inr ⟨RY.wanted_un rfl rfl rfl gd, rfl⟩
        | 25, ho =>
          injection ho with ho; subst ho
          have gd := hd 16 _ 31 rfl rfl ⟨⟨16, .guard⟩, by simp, rfl, rfl⟩
          exact Or.inr ⟨RY.wanted_un rfl rfl rfl gd, rfl⟩
        | 26, ho =>
          injection ho with ho; subst ho
          have gd := hd 16 _ 31 rfl rfl ⟨⟨16, .guard⟩, by simp, rfl, rfl⟩
          exact Or.inr ⟨RY.wanted_un rfl rfl rfl gd, rfl⟩
        | 27, ho =>
          injection ho with ho; subst ho
          have gd := hd 16 _ 31 rfl rfl ⟨⟨16, .guard⟩, by simp, rfl, rfl⟩
          exact Or.inr ⟨RY.wanted_un rfl rfl rfl gd, rfl⟩
        | 28, ho =>
          injection ho with ho; subst ho
          have gd := hd 16 _ 31 rfl rfl ⟨⟨16, .guard⟩, by simp, rfl, rfl⟩
          exact Or.inr ⟨RY.wanted_un rfl rfl rfl gd, rfl⟩
        | 29, ho =>
          injection ho with ho; subst ho
          have gd := hd 13 _ 28 rfl rfl ⟨⟨13, .guard⟩, by simp, rfl, rfl⟩
          exact Or.inr ⟨(RY.wanted_at rfl rfl rfl gd).trans rfl, rfl⟩
        | 30, ho =>
          injection ho with ho; subst ho
          have e28 : a.tmps[28]?.getD undef = _ := (RY.ev_tmp a 28).trans (hd 13 _ 28 rfl rfl ⟨⟨13, .data⟩, by simp, rfl, rfl⟩)
          have e44 : a.tmps[44]?.getD undef = _ := (RY.ev_tmp a 44).trans (hd 29 _ 44 rfl rfl ⟨⟨29, .data⟩, by simp, rfl, rfl⟩)
          exact Or.inl ⟨RY.wanted_no rfl, Or.inl ⟨.bool true, X, by simp [execOp, go_sem, e28, e44], Below.refl _ _, rfl⟩⟩
        | n + 31, ho => simp at ho
      intro X vs hX hvs
      have q45 : vs 45 = _ := hvs 30 _ 45 rfl rfl
      simp only [RY.putAll, Act.put, List.setIfInBounds_toArray, List.set_cons_zero, List.set_cons_succ]
      rw [q45]
      generalize vs 15 = s15
      generalize vs 16 = s16
      generalize vs 17 = s17
      generalize vs 18 = s18
      generalize vs 19 = s19
      generalize vs 20 = s20
      generalize vs 21 = s21
      generalize vs 22 = s22
      generalize vs 23 = s23
      generalize vs 24 = s24
      generalize vs 25 = s25
      generalize vs 26 = s26
      generalize vs 27 = s27
      generalize vs 28 = s28
      generalize vs 29 = s29
      generalize vs 30 = s30
      generalize vs 31 = s31
      generalize vs 32 = s32
      generalize vs 33 = s33
      generalize vs 34 = s34
      generalize vs 35 = s35
      generalize vs 36 = s36
      generalize vs 37 = s37
      generalize vs 38 = s38
      generalize vs 39 = s39
      generalize vs 40 = s40
      generalize vs 41 = s41
      generalize vs 42 = s42
      generalize vs 43 = s43
      generalize vs 44 = s44
      clear hvs q45
      go_wp2
      go_ret
      exact ⟨Pl.ret_bool HNF.out.symm, blw_trans HW.out hX⟩
    have HCF : Hid (∀ X : World, Below wr.heap.size wr X → Calls Try.prog 51 #[.string kd, .string x.key, .slice ax x.ws.length cx] X fun e w' => e = .returned (.bool true) ∧ Below X.heap.size X w') := HCFa.out
    clear HCFa
    obtain ⟨j, hj1, hj2⟩ := HFX.out rfl
    have HJX : Hid (Pl.ruIx (Pl.rulesOf kd) x.key = some j ∧ j < (Pl.rulesOf kd).length) := ⟨hj1, hj2⟩
    clear HFX hj1 hj2
    by_cases hz0 : k = 0
    rotate_left
    · obtain ⟨ay, cy, hgy, hry⟩ := HOP.out (k - 1) (by omega)
      obtain ⟨y, hy⟩ : ∃ y, y = L.getD (k - 1) Pl.lnNo := ⟨_, rfl⟩
      rw [← hy] at hgy hry HOK
      have HGY := uh hgy
      have HRY := uh hry
      have HCLa := uh (fun (X : World) (hX : Below wr.heap.size wr X) => l39LineLessS kd y x ay ax cy cx X (HRY.out.later hX) (HRX.out.later hX))
      obtain ⟨b, hb⟩ : ∃ b, b = Pl.lineLess kd y x := ⟨_, rfl⟩
      rw [← hb] at HCLa HOK
      have HCL : Hid (∀ X : World, Below wr.heap.size wr X → Calls Try.prog 52 #[.string kd, .agg #[.string y.key, .slice ay y.ws.length cy], .agg #[.string x.key, .slice ax x.ws.length cx]] X fun e w' => e = .returned (.bool b) ∧ Below X.heap.size X w') := HCLa.out
      have hpos : (0 : Int) < (k : Int) := by omega
      have hposN : 0 < k := by omega
      have hkm : IntKind.i64.wrap ((k : Int) - 1) = (k : Int) - 1 := IntWalk.i64_in _ ⟨by omega, by omega⟩
      have hm0 : (1 : Int) ≤ (k : Int) := by omega
      have hmn : (k : Int) - 1 < (n : Int) := by omega
      have hmt : ((k : Int) - 1).toNat = k - 1 := by omega
      have hz1 : decide (k = 0) = false := by simpa using hz0
      rw [hz1] at HOK
      clear hgy hry hy hb HCLa
      go_upto_region 4 with fail
      refine RY.region_pastG wr (Below.refl _ _) (VLp kd x y ax ay cx cy p o n vc k b) (VLp_mono _ _ _ _ _ _ _ _ _ _ _ _ _) (by kernel_rfl) (by kernel_rfl) (by kernel_rfl) (by kernel_rfl) ?_ ?_
      · intro i o' ho a X hX hk hd
        have yx0 : X.cell? ⟨p, o + k * 2, none⟩ = some (.string x.key) := (hX.cell (p := ⟨p, o + k * 2, none⟩) HP.out).trans (rA_get HGX.out 0 _ rfl)
        have yx1 : X.cell? ⟨p, o + k * 2 + 1, none⟩ = some (.slice ax x.ws.length cx) := (hX.cell (p := ⟨p, o + k * 2 + 1, none⟩) HP.out).trans (rA_get HGX.out 1 _ rfl)
        have rx := rA_later HGX.out HP.out hX
        have ry := rA_later HGY.out HP.out hX
        match i, ho with
        | 0, ho =>
          injection ho with ho; subst ho
          have e0 : a.tmps[0]?.getD undef = .string kd := (RY.ev_tmp a 0).trans ((hk 0 (by kernel_rfl)).trans rfl)
          exact Or.inl ⟨RY.wanted_no rfl, Or.inl ⟨.string kd, X, by simp [execOp, go_sem, e0], Below.refl _ _, rfl⟩⟩
        | 1, ho =>
          injection ho with ho; subst ho
          have e1 : a.tmps[1]?.getD undef = .slice (some ⟨p, o, none⟩) n vc := (RY.ev_tmp a 1).trans ((hk 1 (by kernel_rfl)).trans rfl)
          exact Or.inl ⟨RY.wanted_no rfl, Or.inl ⟨.slice (some ⟨p, o, none⟩) n vc, X, by simp [execOp, go_sem, e1], Below.refl _ _, rfl⟩⟩
        | 2, ho =>
          injection ho with ho; subst ho
          have e5 : a.tmps[5]?.getD undef = .int .i64 (k : Int) := (RY.ev_tmp a 5).trans ((hk 5 (by kernel_rfl)).trans rfl)
          exact Or.inl ⟨RY.wanted_no rfl, Or.inl ⟨.int .i64 (k : Int), X, by simp [execOp, go_sem, e5], Below.refl _ _, rfl⟩⟩
        | 3, ho =>
          injection ho with ho; subst ho
          have e16 : a.tmps[16]?.getD undef = _ := (RY.ev_tmp a 16).trans (hd 1 _ 16 rfl rfl ⟨⟨1, .data⟩, by simp, rfl, rfl⟩)
          have e17 : a.tmps[17]?.getD undef = _ := (RY.ev_tmp a 17).trans (hd 2 _ 17 rfl rfl ⟨⟨2, .data⟩, by simp, rfl, rfl⟩)
          exact Or.inl ⟨RY.wanted_no rfl, Or.inl ⟨.pointer (some ⟨p, o + k * 2, none⟩), X, by simp [execOp, go_sem, e16, e17, hk0, hkn], Below.refl _ _, rfl⟩⟩
        | 4, ho =>
          injection ho with ho; subst ho
          have e18 : a.tmps[18]?.getD undef = _ := (RY.ev_tmp a 18).trans (hd 3 _ 18 rfl rfl ⟨⟨3, .data⟩, by simp, rfl, rfl⟩)
          exact Or.inl ⟨RY.wanted_no rfl, Or.inl ⟨.pointer (some ⟨p, o + k * 2, none⟩), X, by simp [execOp, go_sem, e18], Below.refl _ _, rfl⟩⟩
        | 5, ho =>
          injection ho with ho; subst ho
          have e19 : a.tmps[19]?.getD undef = _ := (RY.ev_tmp a 19).trans (hd 4 _ 19 rfl rfl ⟨⟨4, .data⟩, by simp, rfl, rfl⟩)
          exact Or.inl ⟨RY.wanted_no rfl, Or.inl ⟨.string x.key, X, by simp [execOp, go_sem, e19, yx0], Below.refl _ _, rfl⟩⟩
        | 6, ho =>
          injection ho with ho; subst ho
          have e1 : a.tmps[1]?.getD undef = .slice (some ⟨p, o, none⟩) n vc := (RY.ev_tmp a 1).trans ((hk 1 (by kernel_rfl)).trans rfl)
          exact Or.inl ⟨RY.wanted_no rfl, Or.inl ⟨.slice (some ⟨p, o, none⟩) n vc, X, by simp [execOp, go_sem, e1], Below.refl _ _, rfl⟩⟩
        | 7, ho =>
          injection ho with ho; subst ho
          have e5 : a.tmps[5]?.getD undef = .int .i64 (k : Int) := (RY.ev_tmp a 5).trans ((hk 5 (by kernel_rfl)).trans rfl)
          exact Or.inl ⟨RY.wanted_no rfl, Or.inl ⟨.int .i64 (k : Int), X, by simp [execOp, go_sem, e5], Below.refl _ _, rfl⟩⟩
        | 8, ho =>
          injection ho with ho; subst ho
          have e21 : a.tmps[21]?.getD undef = _ := (RY.ev_tmp a 21).trans (hd 6 _ 21 rfl rfl ⟨⟨6, .data⟩, by simp, rfl, rfl⟩)
          have e22 : a.tmps[22]?.getD undef = _ := (RY.ev_tmp a 22).trans (hd 7 _ 22 rfl rfl ⟨⟨7, .data⟩, by simp, rfl, rfl⟩)
          exact Or.inl ⟨RY.wanted_no rfl, Or.inl ⟨.pointer (some ⟨p, o + k * 2, none⟩), X, by simp [execOp, go_sem, e21, e22, hk0, hkn], Below.refl _ _, rfl⟩⟩
        | 9, ho =>
          injection ho with ho; subst ho
          have e23 : a.tmps[23]?.getD undef = _ := (RY.ev_tmp a 23).trans (hd 8 _ 23 rfl rfl ⟨⟨8, .data⟩, by simp, rfl, rfl⟩)
          exact Or.inl ⟨RY.wanted_no rfl, Or.inl ⟨.pointer (some ⟨p, o + k * 2 + 1, none⟩), X, by simp [execOp, go_sem, e23], Below.refl _ _, rfl⟩⟩
        | 10, ho =>
          injection ho with ho; subst ho
          have e24 : a.tmps[24]?.getD undef = _ := (RY.ev_tmp a 24).trans (hd 9 _ 24 rfl rfl ⟨⟨9, .data⟩, by simp, rfl, rfl⟩)
          exact Or.inl ⟨RY.wanted_no rfl, Or.inl ⟨.slice ax x.ws.length cx, X, by simp [execOp, go_sem, e24, yx1], Below.refl _ _, rfl⟩⟩
        | 11, ho =>
          injection ho with ho; subst ho
          have e15 : a.tmps[15]?.getD undef = _ := (RY.ev_tmp a 15).trans (hd 0 _ 15 rfl rfl ⟨⟨0, .data⟩, by simp, rfl, rfl⟩)
          have e20 : a.tmps[20]?.getD undef = _ := (RY.ev_tmp a 20).trans (hd 5 _ 20 rfl rfl ⟨⟨5, .data⟩, by simp, rfl, rfl⟩)
          have e25 : a.tmps[25]?.getD undef = _ := (RY.ev_tmp a 25).trans (hd 10 _ 25 rfl rfl ⟨⟨10, .data⟩, by simp, rfl, rfl⟩)
          refine Or.inl ⟨RY.wanted_no rfl, Or.inr ⟨51, #[.string kd, .string x.key, .slice ax x.ws.length cx], by simp [go_sem, e15, e20, e25], (HCF.out X hX).mono ?_⟩⟩
          rintro e W' ⟨rfl, hb⟩
          exact ⟨_, rfl, hb, rfl⟩
        | 12, ho =>
          injection ho with ho; subst ho
          have e26 : a.tmps[26]?.getD undef = _ := (RY.ev_tmp a 26).trans (hd 11 _ 26 rfl rfl ⟨⟨11, .data⟩, by simp, rfl, rfl⟩)
          exact Or.inl ⟨RY.wanted_no rfl, Or.inl ⟨.bool false, X, by simp [execOp, go_sem, e26], Below.refl _ _, rfl⟩⟩
        | 13, ho =>
          injection ho with ho; subst ho
          have e27 : a.tmps[27]?.getD undef = _ := (RY.ev_tmp a 27).trans (hd 12 _ 27 rfl rfl ⟨⟨12, .data⟩, by simp, rfl, rfl⟩)
          exact Or.inl ⟨RY.wanted_no rfl, Or.inl ⟨.bool false, X, by simp [execOp, go_sem, e27], Below.refl _ _, rfl⟩⟩
        | 14, ho =>
          injection ho with ho; subst ho
          have gd := hd 13 _ 28 rfl rfl ⟨⟨13, .guard⟩, by simp, rfl, rfl⟩
          have e5 : a.tmps[5]?.getD undef = .int .i64 (k : Int) := (RY.ev_tmp a 5).trans ((hk 5 (by kernel_rfl)).trans rfl)
          exact Or.inl ⟨(RY.wanted_at rfl rfl rfl gd).trans rfl, Or.inl ⟨.int .i64 (k : Int), X, by simp [execOp, go_sem, e5], Below.refl _ _, rfl⟩⟩
        | 15, ho =>
          injection ho with ho; subst ho
          have gd := hd 13 _ 28 rfl rfl ⟨⟨13, .guard⟩, by simp, rfl, rfl⟩
          have e29 : a.tmps[29]?.getD undef = _ := (RY.ev_tmp a 29).trans (hd 14 _ 29 rfl rfl ⟨⟨14, .data⟩, by simp, rfl, rfl⟩)
          exact Or.inl ⟨(RY.wanted_at rfl rfl rfl gd).trans rfl, Or.inl ⟨.bool true, X, by simp [execOp, go_sem, e29, hposN], Below.refl _ _, rfl⟩⟩
        | 16, ho =>
          injection ho with ho; subst ho
          have gd := hd 13 _ 28 rfl rfl ⟨⟨13, .guard⟩, by simp, rfl, rfl⟩
          have e30 : a.tmps[30]?.getD undef = _ := (RY.ev_tmp a 30).trans (hd 15 _ 30 rfl rfl ⟨⟨15, .data⟩, by simp, rfl, rfl⟩)
          exact Or.inl ⟨(RY.wanted_at rfl rfl rfl gd).trans rfl, Or.inl ⟨.bool true, X, by simp [execOp, go_sem, e30], Below.refl _ _, rfl⟩⟩
        | 17, ho =>
          injection ho with ho; subst ho
          have gd := hd 16 _ 31 rfl rfl ⟨⟨16, .guard⟩, by simp, rfl, rfl⟩
          have e0 : a.tmps[0]?.getD undef = .string kd := (RY.ev_tmp a 0).trans ((hk 0 (by kernel_rfl)).trans rfl)
          exact Or.inl ⟨(RY.wanted_at rfl rfl rfl gd).trans rfl, Or.inl ⟨.string kd, X, by simp [execOp, go_sem, e0], Below.refl _ _, rfl⟩⟩
        | 18, ho =>
          injection ho with ho; subst ho
          have gd := hd 16 _ 31 rfl rfl ⟨⟨16, .guard⟩, by simp, rfl, rfl⟩
          have e1 : a.tmps[1]?.getD undef = .slice (some ⟨p, o, none⟩) n vc := (RY.ev_tmp a 1).trans ((hk 1 (by kernel_rfl)).trans rfl)
          exact Or.inl ⟨(RY.wanted_at rfl rfl rfl gd).trans rfl, Or.inl ⟨.slice (some ⟨p, o, none⟩) n vc, X, by simp [execOp, go_sem, e1], Below.refl _ _, rfl⟩⟩
        | 19, ho =>
          injection ho with ho; subst ho
          have gd := hd 16 _ 31 rfl rfl ⟨⟨16, .guard⟩, by simp, rfl, rfl⟩
          have e5 : a.tmps[5]?.getD undef = .int .i64 (k : Int) := (RY.ev_tmp a 5).trans ((hk 5 (by kernel_rfl)).trans rfl)
          exact Or.inl ⟨(RY.wanted_at rfl rfl rfl gd).trans rfl, Or.inl ⟨.int .i64 (k : Int), X, by simp [execOp, go_sem, e5], Below.refl _ _, rfl⟩⟩
        | 20, ho =>
          injection ho with ho; subst ho
          have gd := hd 16 _ 31 rfl rfl ⟨⟨16, .guard⟩, by simp, rfl, rfl⟩
          have e34 : a.tmps[34]?.getD undef = _ := (RY.ev_tmp a 34).trans (hd 19 _ 34 rfl rfl ⟨⟨19, .data⟩, by simp, rfl, rfl⟩)
          exact Or.inl ⟨(RY.wanted_at rfl rfl rfl gd).trans rfl, Or.inl ⟨.int .i64 ((k : Int) - 1), X, by simp [execOp, go_sem, e34, hkm], Below.refl _ _, rfl⟩⟩
        | 21, ho =>
          injection ho with ho; subst ho
          have gd := hd 16 _ 31 rfl rfl ⟨⟨16, .guard⟩, by simp, rfl, rfl⟩
          have e33 : a.tmps[33]?.getD undef = _ := (RY.ev_tmp a 33).trans (hd 18 _ 33 rfl rfl ⟨⟨18, .data⟩, by simp, rfl, rfl⟩)
          have e35 : a.tmps[35]?.getD undef = _ := (RY.ev_tmp a 35).trans (hd 20 _ 35 rfl rfl ⟨⟨20, .data⟩, by simp, rfl, rfl⟩)
          exact Or.inl ⟨(RY.wanted_at rfl rfl rfl gd).trans rfl, Or.inl ⟨.pointer (some ⟨p, o + (k - 1) * 2, none⟩), X, by simp [execOp, go_sem, e33, e35, hm0, hmn, hmt], Below.refl _ _, rfl⟩⟩
        | 22, ho =>
          injection ho with ho; subst ho
          have gd := hd 16 _ 31 rfl rfl ⟨⟨16, .guard⟩, by simp, rfl, rfl⟩
          have e36 : a.tmps[36]?.getD undef = _ := (RY.ev_tmp a 36).trans (hd 21 _ 36 rfl rfl ⟨⟨21, .data⟩, by simp, rfl, rfl⟩)
          exact Or.inl ⟨(RY.wanted_at rfl rfl rfl gd).trans rfl, Or.inl ⟨.agg #[.string y.key, .slice ay y.ws.length cy], X, exec_load_mid 69 _ rfl p (o + (k - 1) * 2) ((RY.ev_tmp a 36).symm.trans e36) [.string y.key, .slice ay y.ws.length cy] _ ry Try.underlying69 rfl (by kernel_rfl), Below.refl _ _, rfl⟩⟩
        | 23, ho =>
          injection ho with ho; subst ho
          have gd := hd 16 _ 31 rfl rfl ⟨⟨16, .guard⟩, by simp, rfl, rfl⟩
          have e1 : a.tmps[1]?.getD undef = .slice (some ⟨p, o, none⟩) n vc := (RY.ev_tmp a 1).trans ((hk 1 (by kernel_rfl)).trans rfl)
          exact Or.inl ⟨(RY.wanted_at rfl rfl rfl gd).trans rfl, Or.inl ⟨.slice (some ⟨p, o, none⟩) n vc, X, by simp [execOp, go_sem, e1], Below.refl _ _, rfl⟩⟩
        | 24, ho =>
          injection ho with ho; subst ho
          have gd := hd 16 _ 31 rfl rfl ⟨⟨16, .guard⟩, by simp, rfl, rfl⟩
          have e5 : a.tmps[5]?.getD undef = .int .i64 (k : Int) := (RY.ev_tmp a 5).trans ((hk 5 (by kernel_rfl)).trans rfl)
          exact Or.inl ⟨(RY.wanted_at rfl rfl rfl gd).trans rfl, Or.inl ⟨.int .i64 (k : Int), X, by simp [execOp, go_sem, e5], Below.refl _ _, rfl⟩⟩
        | 25, ho =>
          injection ho with ho; subst ho
          have gd := hd 16 _ 31 rfl rfl ⟨⟨16, .guard⟩, by simp, rfl, rfl⟩
          have e38 : a.tmps[38]?.getD undef = _ := (RY.ev_tmp a 38).trans (hd 23 _ 38 rfl rfl ⟨⟨23, .data⟩, by simp, rfl, rfl⟩)
          have e39 : a.tmps[39]?.getD undef = _ := (RY.ev_tmp a 39).trans (hd 24 _ 39 rfl rfl ⟨⟨24, .data⟩, by simp, rfl, rfl⟩)
          exact Or.inl ⟨(RY.wanted_at rfl rfl rfl gd).trans rfl, Or.inl ⟨.pointer (some ⟨p, o + k * 2, none⟩), X, by simp [execOp, go_sem, e38, e39, hk0, hkn], Below.refl _ _, rfl⟩⟩
        | 26, ho =>
          injection ho with ho; subst ho
          have gd := hd 16 _ 31 rfl rfl ⟨⟨16, .guard⟩, by simp, rfl, rfl⟩
          have e40 : a.tmps[40]?.getD undef = _ := (RY.ev_tmp a 40).trans (hd 25 _ 40 rfl rfl ⟨⟨25, .data⟩, by simp, rfl, rfl⟩)
          exact Or.inl ⟨(RY.wanted_at rfl rfl rfl gd).trans rfl, Or.inl ⟨.agg #[.string x.key, .slice ax x.ws.length cx], X, exec_load_mid 69 _ rfl p (o + k * 2) ((RY.ev_tmp a 40).symm.trans e40) [.string x.key, .slice ax x.ws.length cx] _ rx Try.underlying69 rfl (by kernel_rfl), Below.refl _ _, rfl⟩⟩
        | 27, ho =>
          injection ho with ho; subst ho
          have gd := hd 16 _ 31 rfl rfl ⟨⟨16, .guard⟩, by simp, rfl, rfl⟩
          have e32 : a.tmps[32]?.getD undef = _ := (RY.ev_tmp a 32).trans (hd 17 _ 32 rfl rfl ⟨⟨17, .data⟩, by simp, rfl, rfl⟩)
          have e37 : a.tmps[37]?.getD undef = _ := (RY.ev_tmp a 37).trans (hd 22 _ 37 rfl rfl ⟨⟨22, .data⟩, by simp, rfl, rfl⟩)
          have e41 : a.tmps[41]?.getD undef = _ := (RY.ev_tmp a 41).trans (hd 26 _ 41 rfl rfl ⟨⟨26, .data⟩, by simp, rfl, rfl⟩)
          refine Or.inl ⟨(RY.wanted_at rfl rfl rfl gd).trans rfl, Or.inr ⟨52, #[.string kd, .agg #[.string y.key, .slice ay y.ws.length cy], .agg #[.string x.key, .slice ax x.ws.length cx]], by simp [go_sem, e32, e37, e41], (HCL.out X hX).mono ?_⟩⟩
          rintro e W' ⟨rfl, hb⟩
          exact ⟨_, rfl, hb, rfl⟩
        | 28, ho =>
          injection ho with ho; subst ho
          have gd := hd 16 _ 31 rfl rfl ⟨⟨16, .guard⟩, by simp, rfl, rfl⟩
          have e42 : a.tmps[42]?.getD undef = _ := (RY.ev_tmp a 42).trans (hd 27 _ 42 rfl rfl ⟨⟨27, .data⟩, by simp, rfl, rfl⟩)
          exact Or.inl ⟨(RY.wanted_at rfl rfl rfl gd).trans rfl, Or.inl ⟨.bool (!b), X, by simp [execOp, go_sem, e42], Below.refl _ _, rfl⟩⟩
        | 29, ho =>
          injection ho with ho; subst ho
          have gd := hd 13 _ 28 rfl rfl ⟨⟨13, .guard⟩, by simp, rfl, rfl⟩
          have e31 : a.tmps[31]?.getD undef = _ := (RY.ev_tmp a 31).trans (hd 16 _ 31 rfl rfl ⟨⟨16, .data⟩, by simp, rfl, rfl⟩)
          have e43 : a.tmps[43]?.getD undef = _ := (RY.ev_tmp a 43).trans (hd 28 _ 43 rfl rfl ⟨⟨28, .data⟩, by simp, rfl, rfl⟩)
          exact Or.inl ⟨(RY.wanted_at rfl rfl rfl gd).trans rfl, Or.inl ⟨.bool (!b), X, by simp [execOp, go_sem, e31, e43], Below.refl _ _, rfl⟩⟩
        | 30, ho =>
          injection ho with ho; subst ho
          have e28 : a.tmps[28]?.getD undef = _ := (RY.ev_tmp a 28).trans (hd 13 _ 28 rfl rfl ⟨⟨13, .data⟩, by simp, rfl, rfl⟩)
          have e44 : a.tmps[44]?.getD undef = _ := (RY.ev_tmp a 44).trans (hd 29 _ 44 rfl rfl ⟨⟨29, .data⟩, by simp, rfl, rfl⟩)
          exact Or.inl ⟨RY.wanted_no rfl, Or.inl ⟨.bool (!b), X, by simp [execOp, go_sem, e28, e44], Below.refl _ _, rfl⟩⟩
        | n + 31, ho => simp at ho
      intro X vs hX hvs
      have q45 : vs 45 = _ := hvs 30 _ 45 rfl rfl
      simp only [RY.putAll, Act.put, List.setIfInBounds_toArray, List.set_cons_zero, List.set_cons_succ]
      rw [q45]
      generalize vs 15 = s15
      generalize vs 16 = s16
      generalize vs 17 = s17
      generalize vs 18 = s18
      generalize vs 19 = s19
      generalize vs 20 = s20
      generalize vs 21 = s21
      generalize vs 22 = s22
      generalize vs 23 = s23
      generalize vs 24 = s24
      generalize vs 25 = s25
      generalize vs 26 = s26
      generalize vs 27 = s27
      generalize vs 28 = s28
      generalize vs 29 = s29
      generalize vs 30 = s30
      generalize vs 31 = s31
      generalize vs 32 = s32
      generalize vs 33 = s33
      generalize vs 34 = s34
      generalize vs 35 = s35
      generalize vs 36 = s36
      generalize vs 37 = s37
      generalize vs 38 = s38
      generalize vs 39 = s39
      generalize vs 40 = s40
      generalize vs 41 = s41
      generalize vs 42 = s42
      generalize vs 43 = s43
      generalize vs 44 = s44
      clear hvs q45
      cases b
      · have HNF : Hid (Pl.linesOk kd L = false) := HNO.out (by rw [HOK.out]; rfl)
        clear hkm hmt
        go_wp2
        go_ret
        exact ⟨Pl.ret_bool HNF.out.symm, blw_trans HW.out hX⟩
      have HOK2 : Hid (Pl.lineOkAt kd L k = Pl.cntOk (Pl.manyOf kd x.key) (Pl.keyCnt (L.take (k + 1)) x.key)) := by show _ = _; rw [HOK.out]; simp
      clear hpos hposN hkm hm0 hmn hmt hz1 hz0 HGY HRY HCL HOK
      obtain ⟨wy, rfl⟩ : ∃ wy, wy = X := ⟨_, rfl⟩
      replace HOP := uh (lns_later HOP.out HP.out hX)
      replace HW := uh (blw_trans HW.out hX)
      replace HGX := uh (rA_later HGX.out HP.out hX)
      replace HP := uh (Nat.lt_of_lt_of_le HP.out hX.size)
      clear hX HCF HRX
      have HCR : Hid (∀ X, Calls Try.prog 53 #[.string kd, .string x.key] X fun e w' => e = .returned (.int .i64 (j : Int)) ∧ Below X.heap.size X w') := fun X => by
        have := l38RuleS kd x.key X
        rw [HJX.out.1] at this; exact this
      have HCSa := uh (fun X => sheetRulesS kd X)
      obtain ⟨mn, hmn⟩ : ∃ mn, mn = Pl.manyOf kd x.key := ⟨_, rfl⟩
      have hmn2 : ((Pl.rulesOf kd).getD j Pl.ruNo).many = mn := by rw [hmn, Pl.manyOf, HJX.out.1]
      rw [← hmn] at HOK2
      obtain ⟨m, hm⟩ : ∃ m, m = (Pl.rulesOf kd).length := ⟨_, rfl⟩
      have HJ : Hid (j < (Pl.rulesOf kd).length ∧ ((Pl.rulesOf kd).getD j Pl.ruNo).many = mn) := ⟨HJX.out.2, hmn2⟩
      have hj0 : (0 : Int) ≤ (j : Int) := by omega
      have hjm : (j : Int) < (m : Int) := by have := HJX.out.2; omega
      have HCS : Hid (∀ X, Calls Try.prog 28 #[.string kd] X (AnsL [.row 73 shSheetRule] (rulesD (Pl.rulesOf kd)) X)) := HCSa.out
      have HM := uh hm
      clear hm hmn hmn2 HCSa
      go_upto_region 6 with fail
      refine RY.region_pastG wy (Below.refl _ _) (VLm kd x p o n vc k j m mn) (VLm_mono _ _ _ _ _ _ _ _ _ _) (by kernel_rfl) (by kernel_rfl) (by kernel_rfl) (by kernel_rfl) ?_ ?_
      · intro i o' ho a X hX hk hd
        have yx0 : X.cell? ⟨p, o + k * 2, none⟩ = some (.string x.key) := (hX.cell (p := ⟨p, o + k * 2, none⟩) HP.out).trans (rA_get HGX.out 0 _ rfl)
        match i, ho with
        | 0, ho =>
          injection ho with ho; subst ho
          have e0 : a.tmps[0]?.getD undef = .string kd := (RY.ev_tmp a 0).trans ((hk 0 (by kernel_rfl)).trans rfl)
          exact Or.inl ⟨RY.wanted_no rfl, Or.inl ⟨.string kd, X, by simp [execOp, go_sem, e0], Below.refl _ _, rfl⟩⟩
        | 1, ho =>
          injection ho with ho; subst ho
          have e46 : a.tmps[46]?.getD undef = _ := (RY.ev_tmp a 46).trans (hd 0 _ 46 rfl rfl ⟨⟨0, .data⟩, by simp, rfl, rfl⟩)
          refine Or.inl ⟨RY.wanted_no rfl, Or.inr ⟨28, #[.string kd], by simp [go_sem, e46], (HCS.out X).mono ?_⟩⟩
          rintro e W' ⟨v, F, rfl, hr, _, _, hb⟩
          obtain ⟨q, oo, cc, a1, c1, v3, hv, hp, hg, _, _⟩ := rule_at hr.raw HJ.out.1
          have hmc := rA_get hg 2 _ rfl
          rw [HJ.out.2] at hmc
          exact ⟨_, rfl, hb, q, oo, cc, by rw [HM.out]; exact hv, hp, hmc⟩
        | 2, ho =>
          injection ho with ho; subst ho
          have e0 : a.tmps[0]?.getD undef = .string kd := (RY.ev_tmp a 0).trans ((hk 0 (by kernel_rfl)).trans rfl)
          exact Or.inl ⟨RY.wanted_no rfl, Or.inl ⟨.string kd, X, by simp [execOp, go_sem, e0], Below.refl _ _, rfl⟩⟩
        | 3, ho =>
          injection ho with ho; subst ho
          have e1 : a.tmps[1]?.getD undef = .slice (some ⟨p, o, none⟩) n vc := (RY.ev_tmp a 1).trans ((hk 1 (by kernel_rfl)).trans rfl)
          exact Or.inl ⟨RY.wanted_no rfl, Or.inl ⟨.slice (some ⟨p, o, none⟩) n vc, X, by simp [execOp, go_sem, e1], Below.refl _ _, rfl⟩⟩
        | 4, ho =>
          injection ho with ho; subst ho
          have e5 : a.tmps[5]?.getD undef = .int .i64 (k : Int) := (RY.ev_tmp a 5).trans ((hk 5 (by kernel_rfl)).trans rfl)
          exact Or.inl ⟨RY.wanted_no rfl, Or.inl ⟨.int .i64 (k : Int), X, by simp [execOp, go_sem, e5], Below.refl _ _, rfl⟩⟩
        | 5, ho =>
          injection ho with ho; subst ho
          have e49 : a.tmps[49]?.getD undef = _ := (RY.ev_tmp a 49).trans (hd 3 _ 49 rfl rfl ⟨⟨3, .data⟩, by simp, rfl, rfl⟩)
          have e50 : a.tmps[50]?.getD undef = _ := (RY.ev_tmp a 50).trans (hd 4 _ 50 rfl rfl ⟨⟨4, .data⟩, by simp, rfl, rfl⟩)
          exact Or.inl ⟨RY.wanted_no rfl, Or.inl ⟨.pointer (some ⟨p, o + k * 2, none⟩), X, by simp [execOp, go_sem, e49, e50, hk0, hkn], Below.refl _ _, rfl⟩⟩
        | 6, ho =>
          injection ho with ho; subst ho
          have e51 : a.tmps[51]?.getD undef = _ := (RY.ev_tmp a 51).trans (hd 5 _ 51 rfl rfl ⟨⟨5, .data⟩, by simp, rfl, rfl⟩)
          exact Or.inl ⟨RY.wanted_no rfl, Or.inl ⟨.pointer (some ⟨p, o + k * 2, none⟩), X, by simp [execOp, go_sem, e51], Below.refl _ _, rfl⟩⟩
        | 7, ho =>
          injection ho with ho; subst ho
          have e52 : a.tmps[52]?.getD undef = _ := (RY.ev_tmp a 52).trans (hd 6 _ 52 rfl rfl ⟨⟨6, .data⟩, by simp, rfl, rfl⟩)
          exact Or.inl ⟨RY.wanted_no rfl, Or.inl ⟨.string x.key, X, by simp [execOp, go_sem, e52, yx0], Below.refl _ _, rfl⟩⟩
        | 8, ho =>
          injection ho with ho; subst ho
          have e48 : a.tmps[48]?.getD undef = _ := (RY.ev_tmp a 48).trans (hd 2 _ 48 rfl rfl ⟨⟨2, .data⟩, by simp, rfl, rfl⟩)
          have e53 : a.tmps[53]?.getD undef = _ := (RY.ev_tmp a 53).trans (hd 7 _ 53 rfl rfl ⟨⟨7, .data⟩, by simp, rfl, rfl⟩)
          refine Or.inl ⟨RY.wanted_no rfl, Or.inr ⟨53, #[.string kd, .string x.key], by simp [go_sem, e48, e53], (HCR.out X).mono ?_⟩⟩
          rintro e W' ⟨rfl, hb⟩
          exact ⟨_, rfl, hb, rfl⟩
        | 9, ho =>
          injection ho with ho; subst ho
          obtain ⟨q, oo, cc, e470, hq, hc⟩ := hd 1 _ 47 rfl rfl ⟨⟨1, .data⟩, by simp, rfl, rfl⟩
          have e47 := (RY.ev_tmp a 47).trans e470
          have e54 : a.tmps[54]?.getD undef = _ := (RY.ev_tmp a 54).trans (hd 8 _ 54 rfl rfl ⟨⟨8, .data⟩, by simp, rfl, rfl⟩)
          exact Or.inl ⟨RY.wanted_no rfl, Or.inl ⟨.pointer (some ⟨q, oo + j * 4, none⟩), X, by simp [execOp, go_sem, e47, e54, hj0, hjm], Below.refl _ _, q, oo, rfl, hq, hc⟩⟩
        | 10, ho =>
          injection ho with ho; subst ho
          obtain ⟨q, oo, e550, hq, hc⟩ := hd 9 _ 55 rfl rfl ⟨⟨9, .data⟩, by simp, rfl, rfl⟩
          have e55 := (RY.ev_tmp a 55).trans e550
          exact Or.inl ⟨RY.wanted_no rfl, Or.inl ⟨.pointer (some ⟨q, oo + j * 4 + 2, none⟩), X, by simp [execOp, go_sem, e55], Below.refl _ _, q, oo, rfl, hq, hc⟩⟩
        | 11, ho =>
          injection ho with ho; subst ho
          obtain ⟨q, oo, e560, hq, yc⟩ := hd 10 _ 56 rfl rfl ⟨⟨10, .data⟩, by simp, rfl, rfl⟩
          have e56 := (RY.ev_tmp a 56).trans e560
          exact Or.inl ⟨RY.wanted_no rfl, Or.inl ⟨.bool mn, X, by simp [execOp, go_sem, e56, yc], Below.refl _ _, rfl⟩⟩
        | 12, ho =>
          injection ho with ho; subst ho
          have e57 : a.tmps[57]?.getD undef = _ := (RY.ev_tmp a 57).trans (hd 11 _ 57 rfl rfl ⟨⟨11, .data⟩, by simp, rfl, rfl⟩)
          exact Or.inl ⟨RY.wanted_no rfl, Or.inl ⟨.bool mn, X, by simp [execOp, go_sem, e57], Below.refl _ _, rfl⟩⟩
        | n + 13, ho => simp at ho
      intro X vs hX hvs
      have q6 : vs 6 = _ := hvs 12 _ 6 rfl rfl
      simp only [RY.putAll, Act.put, List.setIfInBounds_toArray, List.set_cons_zero, List.set_cons_succ]
      rw [q6]
      generalize vs 46 = s46
      generalize vs 47 = s47
      generalize vs 48 = s48
      generalize vs 49 = s49
      generalize vs 50 = s50
      generalize vs 51 = s51
      generalize vs 52 = s52
      generalize vs 53 = s53
      generalize vs 54 = s54
      generalize vs 55 = s55
      generalize vs 56 = s56
      generalize vs 57 = s57
      clear hvs q6
      obtain ⟨wz, rfl⟩ : ∃ wz, wz = X := ⟨_, rfl⟩
      replace HOP := uh (lns_later HOP.out HP.out hX)
      replace HW := uh (blw_trans HW.out hX)
      replace HGX := uh (rA_later HGX.out HP.out hX)
      replace HP := uh (Nat.lt_of_lt_of_le HP.out hX.size)
      clear hX HCR HCS HJ HM hj0 hjm
      go_wp2
      go_loopw [7, 8] (fun vn vi wr => ∃ q : Nat, q ≤ k + 1 ∧ vi = .int .i64 q ∧ vn = .int .i64 ((Pl.keyCnt (L.take q) x.key : Nat) : Int) ∧ Below wz.heap.size wz wr) (fun _ vi _ => k + 1 - (intOf vi).toNat)
      case atStart => exact ⟨0, Nat.zero_le _, rfl, rfl, Below.refl _ _⟩
      case round =>
        obtain ⟨q, hq, rfl, rfl, hB⟩ := hrel
        have HB := uh hB
        clear hB
        have HCT : Hid (∀ q, Pl.keyCnt (L.take q) x.key ≤ q) := fun q => Nat.le_trans List.countP_le_length (by rw [List.length_take]; omega)
        by_cases hqk : q ≤ k
        · have hqL : q < L.length := by have := HN.out; omega
          obtain ⟨az, cz, hgz, _⟩ := HOP.out q hqL
          have y1 := (HB.out.cell (p := ⟨p, o + q * 2, none⟩) HP.out).trans (rA_get hgz 0 _ rfl)
          have y0 := (HB.out.cell (p := ⟨p, o + k * 2, none⟩) HP.out).trans (rA_get HGX.out 0 _ rfl)
          have HST := uh (cnt_take hqL x.key)
          obtain ⟨z, hz⟩ : ∃ z, z = (L.getD q Pl.lnNo).key := ⟨_, rfl⟩
          have y1' : wr.cell? ⟨p, o + q * 2, none⟩ = some (.string z) := by rw [hz]; exact y1
          rw [← hz] at HST
          have hpz : p < wr.heap.size := Nat.lt_of_lt_of_le HP.out HB.out.size
          have hq0 : (0 : Int) ≤ (q : Int) := by omega
          have hqn : (q : Int) < (n : Int) := by omega
          have hqk2 : (q : Int) ≤ (k : Int) := by omega
          have hct := HCT.out q
          obtain ⟨ct, hctd⟩ : ∃ ct, ct = Pl.keyCnt (L.take q) x.key := ⟨_, rfl⟩
          rw [← hctd] at hct HST ⊢
          clear hgz hz y1 HCT hctd
          cases hh : (z.toList == x.key.toList)
          · have HE : Hid (Pl.keyCnt (L.take (q + 1)) x.key = ct) := by show _ = _; rw [HST.out, Pl.txEq, hh]; rfl
            go_wp2_with fail
            go_quiet (fail)
            go_wp2
            go_roundw
            case rel => exact ⟨q + 1, by omega, by go_num, by first | rw [HE.out] | (rw [HE.out]; go_num), blw_drewN HB.out _⟩
            case measure => simp [intOf]; omega
          · have HE : Hid (Pl.keyCnt (L.take (q + 1)) x.key = ct + 1) := by show _ = _; rw [HST.out, Pl.txEq, hh]; rfl
            go_wp2_with fail
            go_quiet (fail)
            go_wp2
            go_roundw
            case rel => exact ⟨q + 1, by omega, by go_num, by first | (rw [HE.out]; go_num) | rw [HE.out], blw_drewN HB.out _⟩
            case measure => simp [intOf]; omega
        · obtain rfl : q = k + 1 := by omega
          have hct := HCT.out (k + 1)
          obtain ⟨ct, hctd⟩ : ∃ ct, ct = Pl.keyCnt (L.take (k + 1)) x.key := ⟨_, rfl⟩
          rw [← hctd] at hct HOK2 ⊢
          clear hctd HCT
          have hqk3 : ¬ ((k + 1 : Nat) : Int) ≤ (k : Int) := by omega
          cases hco : Pl.cntOk mn ct
          · have HNF : Hid (Pl.linesOk kd L = false) := HNO.out (by rw [HOK2.out, hco])
            unfold Pl.cntOk at hco
            have hcs : (mn = false ∧ (1 : Int) < (ct : Int)) ∨ ((mn = true ∨ ¬ (1 : Int) < (ct : Int)) ∧ (10 : Int) < (ct : Int)) := by
              cases mn <;> simp at hco ⊢ <;> omega
            clear hco
            rcases hcs with ⟨rfl, c1⟩ | ⟨c1 | c1, c2⟩
            · go_wp2
              go_ret
              exact ⟨Pl.ret_bool HNF.out.symm, blw_trans HW.out HB.out⟩
            · subst c1
              go_wp2
              go_ret
              exact ⟨Pl.ret_bool HNF.out.symm, blw_trans HW.out HB.out⟩
            · exfalso; omega
          · have HNX := uh (Pl.rall_step HI.out (HOK2.out.trans hco))
            unfold Pl.cntOk at hco
            have hcs : (mn = true ∨ ¬ (1 : Int) < (ct : Int)) ∧ ¬ (10 : Int) < (ct : Int) := by
              cases mn <;> simp at hco ⊢ <;> omega
            obtain ⟨c1, c2⟩ := hcs
            clear hco
            rcases c1 with c1 | c1
            · subst c1
              go_wp2
              go_roundw
              case rel => exact ⟨k + 1, by omega, by go_num, blw_trans HW.out HB.out, HNX.out⟩
              case measure => simp [intOf]; omega
            · cases mn
              all_goals
                go_wp2
                go_roundw
                case rel => exact ⟨k + 1, by omega, by go_num, blw_trans HW.out HB.out, HNX.out⟩
                case measure => simp [intOf]; omega
    have hposN : ¬ 0 < k := by omega
    have HOK2 : Hid (Pl.lineOkAt kd L k = Pl.cntOk (Pl.manyOf kd x.key) (Pl.keyCnt (L.take (k + 1)) x.key)) := by show _ = _; rw [HOK.out]; simp [hz0]
    obtain ⟨y, ay, cy, b⟩ : Pl.Ln × Option Addr × Nat × Bool := ⟨Pl.lnNo, none, 0, false⟩
    clear HOK hz0
    go_upto_region 4 with fail
    refine RY.region_pastG wr (Below.refl _ _) (VLz kd x ax cx p o n vc k) (VLz_mono _ _ _ _ _ _ _ _ _) (by kernel_rfl) (by kernel_rfl) (by kernel_rfl) (by kernel_rfl) ?_ ?_
    · intro i o' ho a X hX hk hd
      have yx0 : X.cell? ⟨p, o + k * 2, none⟩ = some (.string x.key) := (hX.cell (p := ⟨p, o + k * 2, none⟩) HP.out).trans (rA_get HGX.out 0 _ rfl)
      have yx1 : X.cell? ⟨p, o + k * 2 + 1, none⟩ = some (.slice ax x.ws.length cx) := (hX.cell (p := ⟨p, o + k * 2 + 1, none⟩) HP.out).trans (rA_get HGX.out 1 _ rfl)
      have rx := rA_later HGX.out HP.out hX
      match i, ho with
      | 0, ho =>
        injection ho with ho; subst ho
        have e0 : a.tmps[0]?.getD undef = .string kd := (RY.ev_tmp a 0).trans ((hk 0 (by kernel_rfl)).trans rfl)
        exact Or.inl ⟨RY.wanted_no rfl, Or.inl ⟨.string kd, X, by simp [execOp, go_sem, e0], Below.refl _ _, rfl⟩⟩
      | 1, ho =>
        injection ho with ho; subst ho
        have e1 : a.tmps[1]?.getD undef = .slice (some ⟨p, o, none⟩) n vc := (RY.ev_tmp a 1).trans ((hk 1 (by kernel_rfl)).trans rfl)
        exact Or.inl ⟨RY.wanted_no rfl, Or.inl ⟨.slice (some ⟨p, o, none⟩) n vc, X, by simp [execOp, go_sem, e1], Below.refl _ _, rfl⟩⟩
      | 2, ho =>
        injection ho with ho; subst ho
        have e5 : a.tmps[5]?.getD undef = .int .i64 (k : Int) := (RY.ev_tmp a 5).trans ((hk 5 (by kernel_rfl)).trans rfl)
        exact Or.inl ⟨RY.wanted_no rfl, Or.inl ⟨.int .i64 (k : Int), X, by simp [execOp, go_sem, e5], Below.refl _ _, rfl⟩⟩
      | 3, ho =>
        injection ho with ho; subst ho
        have e16 : a.tmps[16]?.getD undef = _ := (RY.ev_tmp a 16).trans (hd 1 _ 16 rfl rfl ⟨⟨1, .data⟩, by simp, rfl, rfl⟩)
        have e17 : a.tmps[17]?.getD undef = _ := (RY.ev_tmp a 17).trans (hd 2 _ 17 rfl rfl ⟨⟨2, .data⟩, by simp, rfl, rfl⟩)
        exact Or.inl ⟨RY.wanted_no rfl, Or.inl ⟨.pointer (some ⟨p, o + k * 2, none⟩), X, by simp [execOp, go_sem, e16, e17, hk0, hkn], Below.refl _ _, rfl⟩⟩
      | 4, ho =>
        injection ho with ho; subst ho
        have e18 : a.tmps[18]?.getD undef = _ := (RY.ev_tmp a 18).trans (hd 3 _ 18 rfl rfl ⟨⟨3, .data⟩, by simp, rfl, rfl⟩)
        exact Or.inl ⟨RY.wanted_no rfl, Or.inl ⟨.pointer (some ⟨p, o + k * 2, none⟩), X, by simp [execOp, go_sem, e18], Below.refl _ _, rfl⟩⟩
      | 5, ho =>
        injection ho with ho; subst ho
        have e19 : a.tmps[19]?.getD undef = _ := (RY.ev_tmp a 19).trans (hd 4 _ 19 rfl rfl ⟨⟨4, .data⟩, by simp, rfl, rfl⟩)
        exact Or.inl ⟨RY.wanted_no rfl, Or.inl ⟨.string x.key, X, by simp [execOp, go_sem, e19, yx0], Below.refl _ _, rfl⟩⟩
      | 6, ho =>
        injection ho with ho; subst ho
        have e1 : a.tmps[1]?.getD undef = .slice (some ⟨p, o, none⟩) n vc := (RY.ev_tmp a 1).trans ((hk 1 (by kernel_rfl)).trans rfl)
        exact Or.inl ⟨RY.wanted_no rfl, Or.inl ⟨.slice (some ⟨p, o, none⟩) n vc, X, by simp [execOp, go_sem, e1], Below.refl _ _, rfl⟩⟩
      | 7, ho =>
        injection ho with ho; subst ho
        have e5 : a.tmps[5]?.getD undef = .int .i64 (k : Int) := (RY.ev_tmp a 5).trans ((hk 5 (by kernel_rfl)).trans rfl)
        exact Or.inl ⟨RY.wanted_no rfl, Or.inl ⟨.int .i64 (k : Int), X, by simp [execOp, go_sem, e5], Below.refl _ _, rfl⟩⟩
      | 8, ho =>
        injection ho with ho; subst ho
        have e21 : a.tmps[21]?.getD undef = _ := (RY.ev_tmp a 21).trans (hd 6 _ 21 rfl rfl ⟨⟨6, .data⟩, by simp, rfl, rfl⟩)
        have e22 : a.tmps[22]?.getD undef = _ := (RY.ev_tmp a 22).trans (hd 7 _ 22 rfl rfl ⟨⟨7, .data⟩, by simp, rfl, rfl⟩)
        exact Or.inl ⟨RY.wanted_no rfl, Or.inl ⟨.pointer (some ⟨p, o + k * 2, none⟩), X, by simp [execOp, go_sem, e21, e22, hk0, hkn], Below.refl _ _, rfl⟩⟩
      | 9, ho =>
        injection ho with ho; subst ho
        have e23 : a.tmps[23]?.getD undef = _ := (RY.ev_tmp a 23).trans (hd 8 _ 23 rfl rfl ⟨⟨8, .data⟩, by simp, rfl, rfl⟩)
        exact Or.inl ⟨RY.wanted_no rfl, Or.inl ⟨.pointer (some ⟨p, o + k * 2 + 1, none⟩), X, by simp [execOp, go_sem, e23], Below.refl _ _, rfl⟩⟩
      | 10, ho =>
        injection ho with ho; subst ho
        have e24 : a.tmps[24]?.getD undef = _ := (RY.ev_tmp a 24).trans (hd 9 _ 24 rfl rfl ⟨⟨9, .data⟩, by simp, rfl, rfl⟩)
        exact Or.inl ⟨RY.wanted_no rfl, Or.inl ⟨.slice ax x.ws.length cx, X, by simp [execOp, go_sem, e24, yx1], Below.refl _ _, rfl⟩⟩
      | 11, ho =>
        injection ho with ho; subst ho
        have e15 : a.tmps[15]?.getD undef = _ := (RY.ev_tmp a 15).trans (hd 0 _ 15 rfl rfl ⟨⟨0, .data⟩, by simp, rfl, rfl⟩)
        have e20 : a.tmps[20]?.getD undef = _ := (RY.ev_tmp a 20).trans (hd 5 _ 20 rfl rfl ⟨⟨5, .data⟩, by simp, rfl, rfl⟩)
        have e25 : a.tmps[25]?.getD undef = _ := (RY.ev_tmp a 25).trans (hd 10 _ 25 rfl rfl ⟨⟨10, .data⟩, by simp, rfl, rfl⟩)
        refine Or.inl ⟨RY.wanted_no rfl, Or.inr ⟨51, #[.string kd, .string x.key, .slice ax x.ws.length cx], by simp [go_sem, e15, e20, e25], (HCF.out X hX).mono ?_⟩⟩
        rintro e W' ⟨rfl, hb⟩
        exact ⟨_, rfl, hb, rfl⟩
      | 12, ho =>
        injection ho with ho; subst ho
        have e26 : a.tmps[26]?.getD undef = _ := (RY.ev_tmp a 26).trans (hd 11 _ 26 rfl rfl ⟨⟨11, .data⟩, by simp, rfl, rfl⟩)
        exact Or.inl ⟨RY.wanted_no rfl, Or.inl ⟨.bool false, X, by simp [execOp, go_sem, e26], Below.refl _ _, rfl⟩⟩
      | 13, ho =>
        injection ho with ho; subst ho
        have e27 : a.tmps[27]?.getD undef = _ := (RY.ev_tmp a 27).trans (hd 12 _ 27 rfl rfl ⟨⟨12, .data⟩, by simp, rfl, rfl⟩)
        exact Or.inl ⟨RY.wanted_no rfl, Or.inl ⟨.bool false, X, by simp [execOp, go_sem, e27], Below.refl _ _, rfl⟩⟩
      | 14, ho =>
        injection ho with ho; subst ho
        have gd := hd 13 _ 28 rfl rfl ⟨⟨13, .guard⟩, by simp, rfl, rfl⟩
        have e5 : a.tmps[5]?.getD undef = .int .i64 (k : Int) := (RY.ev_tmp a 5).trans ((hk 5 (by kernel_rfl)).trans rfl)
        exact Or.inl ⟨(RY.wanted_at rfl rfl rfl gd).trans rfl, Or.inl ⟨.int .i64 (k : Int), X, by simp [execOp, go_sem, e5], Below.refl _ _, rfl⟩⟩
      | 15, ho =>
        injection ho with ho; subst ho
        have gd := hd 13 _ 28 rfl rfl ⟨⟨13, .guard⟩, by simp, rfl, rfl⟩
        have e29 : a.tmps[29]?.getD undef = _ := (RY.ev_tmp a 29).trans (hd 14 _ 29 rfl rfl ⟨⟨14, .data⟩, by simp, rfl, rfl⟩)
        exact Or.inl ⟨(RY.wanted_at rfl rfl rfl gd).trans rfl, Or.inl ⟨.bool false, X, by simp [execOp, go_sem, e29, hposN], Below.refl _ _, rfl⟩⟩
      | 16, ho =>
        injection ho with ho; subst ho
        have gd := hd 13 _ 28 rfl rfl ⟨⟨13, .guard⟩, by simp, rfl, rfl⟩
        have e30 : a.tmps[30]?.getD undef = _ := (RY.ev_tmp a 30).trans (hd 15 _ 30 rfl rfl ⟨⟨15, .data⟩, by simp, rfl, rfl⟩)
        exact Or.inl ⟨(RY.wanted_at rfl rfl rfl gd).trans rfl, Or.inl ⟨.bool false, X, by simp [execOp, go_sem, e30], Below.refl _ _, rfl⟩⟩
      | 17, ho =>
        injection ho with ho; subst ho
        have gd := hd 16 _ 31 rfl rfl ⟨⟨16, .guard⟩, by simp, rfl, rfl⟩
        exact Or.inr ⟨(RY.wanted_at rfl rfl rfl gd).trans rfl, rfl⟩
      | 18, ho =>
        injection ho with ho; subst ho
        have gd := hd 16 _ 31 rfl rfl ⟨⟨16, .guard⟩, by simp, rfl, rfl⟩
        exact Or.inr ⟨(RY.wanted_at rfl rfl rfl gd).trans rfl, rfl⟩
      | 19, ho =>
        injection ho with ho; subst ho
        have gd := hd 16 _ 31 rfl rfl ⟨⟨16, .guard⟩, by simp, rfl, rfl⟩
        exact Or.inr ⟨(RY.wanted_at rfl rfl rfl gd).trans rfl, rfl⟩
      | 20, ho =>
        injection ho with ho; subst ho
        have gd := hd 16 _ 31 rfl rfl ⟨⟨16, .guard⟩, by simp, rfl, rfl⟩
        exact Or.inr ⟨(RY.wanted_at rfl rfl rfl gd).trans rfl, rfl⟩
      | 21, ho =>
        injection ho with ho; subst ho
        have gd := hd 16 _ 31 rfl rfl ⟨⟨16, .guard⟩, by simp, rfl, rfl⟩
        exact Or.inr ⟨(RY.wanted_at rfl rfl rfl gd).trans rfl, rfl⟩
      | 22, ho =>
        injection ho with ho; subst ho
        have gd := hd 16 _ 31 rfl rfl ⟨⟨16, .guard⟩, by simp, rfl, rfl⟩
        exact Or.inr ⟨(RY.wanted_at rfl rfl rfl gd).trans rfl, rfl⟩
      | 23, ho =>
        injection ho with ho; subst ho
        have gd := hd 16 _ 31 rfl rfl ⟨⟨16, .guard⟩, by simp, rfl, rfl⟩
        exact Or.inr ⟨(RY.wanted_at rfl rfl rfl gd).trans rfl, rfl⟩
      | 24, ho =>
        injection ho with ho; subst ho
        have gd := hd 16 _ 31 rfl rfl ⟨⟨16, .guard⟩, by simp, rfl, rfl⟩
        exact Or.inr ⟨(RY.wanted_at rfl rfl rfl gd).trans rfl, rfl⟩
      | 25, ho =>
        injection ho with ho; subst ho
        have gd := hd 16 _ 31 rfl rfl ⟨⟨16, .guard⟩, by simp, rfl, rfl⟩
        exact Or.inr ⟨(RY.wanted_at rfl rfl rfl gd).trans rfl, rfl⟩
      | 26, ho =>
        injection ho with ho; subst ho
        have gd := hd 16 _ 31 rfl rfl ⟨⟨16, .guard⟩, by simp, rfl, rfl⟩
        exact Or.inr ⟨(RY.wanted_at rfl rfl rfl gd).trans rfl, rfl⟩
      | 27, ho =>
        injection ho with ho; subst ho
        have gd := hd 16 _ 31 rfl rfl ⟨⟨16, .guard⟩, by simp, rfl, rfl⟩
        exact Or.inr ⟨(RY.wanted_at rfl rfl rfl gd).trans rfl, rfl⟩
      | 28, ho =>
        injection ho with ho; subst ho
        have gd := hd 16 _ 31 rfl rfl ⟨⟨16, .guard⟩, by simp, rfl, rfl⟩
        exact Or.inr ⟨(RY.wanted_at rfl rfl rfl gd).trans rfl, rfl⟩
      | 29, ho =>
        injection ho with ho; subst ho
        have gd := hd 13 _ 28 rfl rfl ⟨⟨13, .guard⟩, by simp, rfl, rfl⟩
        have e31 : a.tmps[31]?.getD undef = _ := (RY.ev_tmp a 31).trans (hd 16 _ 31 rfl rfl ⟨⟨16, .data⟩, by simp, rfl, rfl⟩)
        have e43 : a.tmps[43]?.getD undef = _ := (RY.ev_tmp a 43).trans (hd 28 _ 43 rfl rfl ⟨⟨28, .data⟩, by simp, rfl, rfl⟩)
        exact Or.inl ⟨(RY.wanted_at rfl rfl rfl gd).trans rfl, Or.inl ⟨.bool false, X, by simp [execOp, go_sem, e31, e43], Below.refl _ _, rfl⟩⟩
      | 30, ho =>
        injection ho with ho; subst ho
        have e28 : a.tmps[28]?.getD undef = _ := (RY.ev_tmp a 28).trans (hd 13 _ 28 rfl rfl ⟨⟨13, .data⟩, by simp, rfl, rfl⟩)
        have e44 : a.tmps[44]?.getD undef = _ := (RY.ev_tmp a 44).trans (hd 29 _ 44 rfl rfl ⟨⟨29, .data⟩, by simp, rfl, rfl⟩)
        exact Or.inl ⟨RY.wanted_no rfl, Or.inl ⟨.bool false, X, by simp [execOp, go_sem, e28, e44], Below.refl _ _, rfl⟩⟩
      | n + 31, ho => simp at ho
    intro X vs hX hvs
    have q45 : vs 45 = _ := hvs 30 _ 45 rfl rfl
    simp only [RY.putAll, Act.put, List.setIfInBounds_toArray, List.set_cons_zero, List.set_cons_succ]
    rw [q45]
    generalize vs 15 = s15
    generalize vs 16 = s16
    generalize vs 17 = s17
    generalize vs 18 = s18
    generalize vs 19 = s19
    generalize vs 20 = s20
    generalize vs 21 = s21
    generalize vs 22 = s22
    generalize vs 23 = s23
    generalize vs 24 = s24
    generalize vs 25 = s25
    generalize vs 26 = s26
    generalize vs 27 = s27
    generalize vs 28 = s28
    generalize vs 29 = s29
    generalize vs 30 = s30
    generalize vs 31 = s31
    generalize vs 32 = s32
    generalize vs 33 = s33
    generalize vs 34 = s34
    generalize vs 35 = s35
    generalize vs 36 = s36
    generalize vs 37 = s37
    generalize vs 38 = s38
    generalize vs 39 = s39
    generalize vs 40 = s40
    generalize vs 41 = s41
    generalize vs 42 = s42
    generalize vs 43 = s43
    generalize vs 44 = s44
    clear hvs q45
    clear hposN
    obtain ⟨wy, rfl⟩ : ∃ wy, wy = X := ⟨_, rfl⟩
    replace HOP := uh (lns_later HOP.out HP.out hX)
    replace HW := uh (blw_trans HW.out hX)
    replace HGX := uh (rA_later HGX.out HP.out hX)
    replace HP := uh (Nat.lt_of_lt_of_le HP.out hX.size)
    clear hX HCF HRX
    have HCR : Hid (∀ X, Calls Try.prog 53 #[.string kd, .string x.key] X fun e w' => e = .returned (.int .i64 (j : Int)) ∧ Below X.heap.size X w') := fun X => by
      have := l38RuleS kd x.key X
      rw [HJX.out.1] at this; exact this
    have HCSa := uh (fun X => sheetRulesS kd X)
    obtain ⟨mn, hmn⟩ : ∃ mn, mn = Pl.manyOf kd x.key := ⟨_, rfl⟩
    have hmn2 : ((Pl.rulesOf kd).getD j Pl.ruNo).many = mn := by rw [hmn, Pl.manyOf, HJX.out.1]
    rw [← hmn] at HOK2
    obtain ⟨m, hm⟩ : ∃ m, m = (Pl.rulesOf kd).length := ⟨_, rfl⟩
    have HJ : Hid (j < (Pl.rulesOf kd).length ∧ ((Pl.rulesOf kd).getD j Pl.ruNo).many = mn) := ⟨HJX.out.2, hmn2⟩
    have hj0 : (0 : Int) ≤ (j : Int) := by omega
    have hjm : (j : Int) < (m : Int) := by have := HJX.out.2; omega
    have HCS : Hid (∀ X, Calls Try.prog 28 #[.string kd] X (AnsL [.row 73 shSheetRule] (rulesD (Pl.rulesOf kd)) X)) := HCSa.out
    have HM := uh hm
    clear hm hmn hmn2 HCSa
    go_upto_region 6 with fail
    refine RY.region_pastG wy (Below.refl _ _) (VLm kd x p o n vc k j m mn) (VLm_mono _ _ _ _ _ _ _ _ _ _) (by kernel_rfl) (by kernel_rfl) (by kernel_rfl) (by kernel_rfl) ?_ ?_
    · intro i o' ho a X hX hk hd
      have yx0 : X.cell? ⟨p, o + k * 2, none⟩ = some (.string x.key) := (hX.cell (p := ⟨p, o + k * 2, none⟩) HP.out).trans (rA_get HGX.out 0 _ rfl)
      match i, ho with
      | 0, ho =>
        injection ho with ho; subst ho
        have e0 : a.tmps[0]?.getD undef = .string kd := (RY.ev_tmp a 0).trans ((hk 0 (by kernel_rfl)).trans rfl)
        exact Or.inl ⟨RY.wanted_no rfl, Or.inl ⟨.string kd, X, by simp [execOp, go_sem, e0], Below.refl _ _, rfl⟩⟩
      | 1, ho =>
        injection ho with ho; subst ho
        have e46 : a.tmps[46]?.getD undef = _ := (RY.ev_tmp a 46).trans (hd 0 _ 46 rfl rfl ⟨⟨0, .data⟩, by simp, rfl, rfl⟩)
        refine Or.inl ⟨RY.wanted_no rfl, Or.inr ⟨28, #[.string kd], by simp [go_sem, e46], (HCS.out X).mono ?_⟩⟩
        rintro e W' ⟨v, F, rfl, hr, _, _, hb⟩
        obtain ⟨q, oo, cc, a1, c1, v3, hv, hp, hg, _, _⟩ := rule_at hr.raw HJ.out.1
        have hmc := rA_get hg 2 _ rfl
        rw [HJ.out.2] at hmc
        exact ⟨_, rfl, hb, q, oo, cc, by rw [HM.out]; exact hv, hp, hmc⟩
      | 2, ho =>
        injection ho with ho; subst ho
        have e0 : a.tmps[0]?.getD undef = .string kd := (RY.ev_tmp a 0).trans ((hk 0 (by kernel_rfl)).trans rfl)
        exact Or.inl ⟨RY.wanted_no rfl, Or.inl ⟨.string kd, X, by simp [execOp, go_sem, e0], Below.refl _ _, rfl⟩⟩
      | 3, ho =>
        injection ho with ho; subst ho
        have e1 : a.tmps[1]?.getD undef = .slice (some ⟨p, o, none⟩) n vc := (RY.ev_tmp a 1).trans ((hk 1 (by kernel_rfl)).trans rfl)
        exact Or.inl ⟨RY.wanted_no rfl, Or.inl ⟨.slice (some ⟨p, o, none⟩) n vc, X, by simp [execOp, go_sem, e1], Below.refl _ _, rfl⟩⟩
      | 4, ho =>
        injection ho with ho; subst ho
        have e5 : a.tmps[5]?.getD undef = .int .i64 (k : Int) := (RY.ev_tmp a 5).trans ((hk 5 (by kernel_rfl)).trans rfl)
        exact Or.inl ⟨RY.wanted_no rfl, Or.inl ⟨.int .i64 (k : Int), X, by simp [execOp, go_sem, e5], Below.refl _ _, rfl⟩⟩
      | 5, ho =>
        injection ho with ho; subst ho
        have e49 : a.tmps[49]?.getD undef = _ := (RY.ev_tmp a 49).trans (hd 3 _ 49 rfl rfl ⟨⟨3, .data⟩, by simp, rfl, rfl⟩)
        have e50 : a.tmps[50]?.getD undef = _ := (RY.ev_tmp a 50).trans (hd 4 _ 50 rfl rfl ⟨⟨4, .data⟩, by simp, rfl, rfl⟩)
        exact Or.inl ⟨RY.wanted_no rfl, Or.inl ⟨.pointer (some ⟨p, o + k * 2, none⟩), X, by simp [execOp, go_sem, e49, e50, hk0, hkn], Below.refl _ _, rfl⟩⟩
      | 6, ho =>
        injection ho with ho; subst ho
        have e51 : a.tmps[51]?.getD undef = _ := (RY.ev_tmp a 51).trans (hd 5 _ 51 rfl rfl ⟨⟨5, .data⟩, by simp, rfl, rfl⟩)
        exact Or.inl ⟨RY.wanted_no rfl, Or.inl ⟨.pointer (some ⟨p, o + k * 2, none⟩), X, by simp [execOp, go_sem, e51], Below.refl _ _, rfl⟩⟩
      | 7, ho =>
        injection ho with ho; subst ho
        have e52 : a.tmps[52]?.getD undef = _ := (RY.ev_tmp a 52).trans (hd 6 _ 52 rfl rfl ⟨⟨6, .data⟩, by simp, rfl, rfl⟩)
        exact Or.inl ⟨RY.wanted_no rfl, Or.inl ⟨.string x.key, X, by simp [execOp, go_sem, e52, yx0], Below.refl _ _, rfl⟩⟩
      | 8, ho =>
        injection ho with ho; subst ho
        have e48 : a.tmps[48]?.getD undef = _ := (RY.ev_tmp a 48).trans (hd 2 _ 48 rfl rfl ⟨⟨2, .data⟩, by simp, rfl, rfl⟩)
        have e53 : a.tmps[53]?.getD undef = _ := (RY.ev_tmp a 53).trans (hd 7 _ 53 rfl rfl ⟨⟨7, .data⟩, by simp, rfl, rfl⟩)
        refine Or.inl ⟨RY.wanted_no rfl, Or.inr ⟨53, #[.string kd, .string x.key], by simp [go_sem, e48, e53], (HCR.out X).mono ?_⟩⟩
        rintro e W' ⟨rfl, hb⟩
        exact ⟨_, rfl, hb, rfl⟩
      | 9, ho =>
        injection ho with ho; subst ho
        obtain ⟨q, oo, cc, e470, hq, hc⟩ := hd 1 _ 47 rfl rfl ⟨⟨1, .data⟩, by simp, rfl, rfl⟩
        have e47 := (RY.ev_tmp a 47).trans e470
        have e54 : a.tmps[54]?.getD undef = _ := (RY.ev_tmp a 54).trans (hd 8 _ 54 rfl rfl ⟨⟨8, .data⟩, by simp, rfl, rfl⟩)
        exact Or.inl ⟨RY.wanted_no rfl, Or.inl ⟨.pointer (some ⟨q, oo + j * 4, none⟩), X, by simp [execOp, go_sem, e47, e54, hj0, hjm], Below.refl _ _, q, oo, rfl, hq, hc⟩⟩
      | 10, ho =>
        injection ho with ho; subst ho
        obtain ⟨q, oo, e550, hq, hc⟩ := hd 9 _ 55 rfl rfl ⟨⟨9, .data⟩, by simp, rfl, rfl⟩
        have e55 := (RY.ev_tmp a 55).trans e550
        exact Or.inl ⟨RY.wanted_no rfl, Or.inl ⟨.pointer (some ⟨q, oo + j * 4 + 2, none⟩), X, by simp [execOp, go_sem, e55], Below.refl _ _, q, oo, rfl, hq, hc⟩⟩
      | 11, ho =>
        injection ho with ho; subst ho
        obtain ⟨q, oo, e560, hq, yc⟩ := hd 10 _ 56 rfl rfl ⟨⟨10, .data⟩, by simp, rfl, rfl⟩
        have e56 := (RY.ev_tmp a 56).trans e560
        exact Or.inl ⟨RY.wanted_no rfl, Or.inl ⟨.bool mn, X, by simp [execOp, go_sem, e56, yc], Below.refl _ _, rfl⟩⟩
      | 12, ho =>
        injection ho with ho; subst ho
        have e57 : a.tmps[57]?.getD undef = _ := (RY.ev_tmp a 57).trans (hd 11 _ 57 rfl rfl ⟨⟨11, .data⟩, by simp, rfl, rfl⟩)
        exact Or.inl ⟨RY.wanted_no rfl, Or.inl ⟨.bool mn, X, by simp [execOp, go_sem, e57], Below.refl _ _, rfl⟩⟩
      | n + 13, ho => simp at ho
    intro X vs hX hvs
    have q6 : vs 6 = _ := hvs 12 _ 6 rfl rfl
    simp only [RY.putAll, Act.put, List.setIfInBounds_toArray, List.set_cons_zero, List.set_cons_succ]
    rw [q6]
    generalize vs 46 = s46
    generalize vs 47 = s47
    generalize vs 48 = s48
    generalize vs 49 = s49
    generalize vs 50 = s50
    generalize vs 51 = s51
    generalize vs 52 = s52
    generalize vs 53 = s53
    generalize vs 54 = s54
    generalize vs 55 = s55
    generalize vs 56 = s56
    generalize vs 57 = s57
    clear hvs q6
    obtain ⟨wz, rfl⟩ : ∃ wz, wz = X := ⟨_, rfl⟩
    replace HOP := uh (lns_later HOP.out HP.out hX)
    replace HW := uh (blw_trans HW.out hX)
    replace HGX := uh (rA_later HGX.out HP.out hX)
    replace HP := uh (Nat.lt_of_lt_of_le HP.out hX.size)
    clear hX HCR HCS HJ HM hj0 hjm
    go_wp2
    go_loopw [7, 8] (fun vn vi wr => ∃ q : Nat, q ≤ k + 1 ∧ vi = .int .i64 q ∧ vn = .int .i64 ((Pl.keyCnt (L.take q) x.key : Nat) : Int) ∧ Below wz.heap.size wz wr) (fun _ vi _ => k + 1 - (intOf vi).toNat)
    case atStart => exact ⟨0, Nat.zero_le _, rfl, rfl, Below.refl _ _⟩
    case round =>
      obtain ⟨q, hq, rfl, rfl, hB⟩ := hrel
      have HB := uh hB
      clear hB
      have HCT : Hid (∀ q, Pl.keyCnt (L.take q) x.key ≤ q) := fun q => Nat.le_trans List.countP_le_length (by rw [List.length_take]; omega)
      by_cases hqk : q ≤ k
      · have hqL : q < L.length := by have := HN.out; omega
        obtain ⟨az, cz, hgz, _⟩ := HOP.out q hqL
        have y1 := (HB.out.cell (p := ⟨p, o + q * 2, none⟩) HP.out).trans (rA_get hgz 0 _ rfl)
        have y0 := (HB.out.cell (p := ⟨p, o + k * 2, none⟩) HP.out).trans (rA_get HGX.out 0 _ rfl)
        have HST := uh (cnt_take hqL x.key)
        obtain ⟨z, hz⟩ : ∃ z, z = (L.getD q Pl.lnNo).key := ⟨_, rfl⟩
        have y1' : wr.cell? ⟨p, o + q * 2, none⟩ = some (.string z) := by rw [hz]; exact y1
        rw [← hz] at HST
        have hpz : p < wr.heap.size := Nat.lt_of_lt_of_le HP.out HB.out.size
        have hq0 : (0 : Int) ≤ (q : Int) := by omega
        have hqn : (q : Int) < (n : Int) := by omega
        have hqk2 : (q : Int) ≤ (k : Int) := by omega
        have hct := HCT.out q
        obtain ⟨ct, hctd⟩ : ∃ ct, ct = Pl.keyCnt (L.take q) x.key := ⟨_, rfl⟩
        rw [← hctd] at hct HST ⊢
        clear hgz hz y1 HCT hctd
        cases hh : (z.toList == x.key.toList)
        · have HE : Hid (Pl.keyCnt (L.take (q + 1)) x.key = ct) := by show _ = _; rw [HST.out, Pl.txEq, hh]; rfl
          go_wp2_with fail
          go_quiet (fail)
          go_wp2
          go_roundw
          case rel => exact ⟨q + 1, by omega, by go_num, by first | rw [HE.out] | (rw [HE.out]; go_num), blw_drewN HB.out _⟩
          case measure => simp [intOf]; omega
        · have HE : Hid (Pl.keyCnt (L.take (q + 1)) x.key = ct + 1) := by show _ = _; rw [HST.out, Pl.txEq, hh]; rfl
          go_wp2_with fail
          go_quiet (fail)
          go_wp2
          go_roundw
          case rel => exact ⟨q + 1, by omega, by go_num, by first | (rw [HE.out]; go_num) | rw [HE.out], blw_drewN HB.out _⟩
          case measure => simp [intOf]; omega
      · obtain rfl : q = k + 1 := by omega
        have hct := HCT.out (k + 1)
        obtain ⟨ct, hctd⟩ : ∃ ct, ct = Pl.keyCnt (L.take (k + 1)) x.key := ⟨_, rfl⟩
        rw [← hctd] at hct HOK2 ⊢
        clear hctd HCT
        have hqk3 : ¬ ((k + 1 : Nat) : Int) ≤ (k : Int) := by omega
        cases hco : Pl.cntOk mn ct
        · have HNF : Hid (Pl.linesOk kd L = false) := HNO.out (by rw [HOK2.out, hco])
          unfold Pl.cntOk at hco
          have hcs : (mn = false ∧ (1 : Int) < (ct : Int)) ∨ ((mn = true ∨ ¬ (1 : Int) < (ct : Int)) ∧ (10 : Int) < (ct : Int)) := by
            cases mn <;> simp at hco ⊢ <;> omega
          clear hco
          rcases hcs with ⟨rfl, c1⟩ | ⟨c1 | c1, c2⟩
          · go_wp2
            go_ret
            exact ⟨Pl.ret_bool HNF.out.symm, blw_trans HW.out HB.out⟩
          · subst c1
            go_wp2
            go_ret
            exact ⟨Pl.ret_bool HNF.out.symm, blw_trans HW.out HB.out⟩
          · exfalso; omega
        · have HNX := uh (Pl.rall_step HI.out (HOK2.out.trans hco))
          unfold Pl.cntOk at hco
          have hcs : (mn = true ∨ ¬ (1 : Int) < (ct : Int)) ∧ ¬ (10 : Int) < (ct : Int) := by
            cases mn <;> simp at hco ⊢ <;> omega
          obtain ⟨c1, c2⟩ := hcs
          clear hco
          rcases c1 with c1 | c1
          · subst c1
            go_wp2
            go_roundw
            case rel => exact ⟨k + 1, by omega, by go_num, blw_trans HW.out HB.out, HNX.out⟩
            case measure => simp [intOf]; omega
          · cases mn
            all_goals
              go_wp2
              go_roundw
              case rel => exact ⟨k + 1, by omega, by go_num, blw_trans HW.out HB.out, HNX.out⟩
              case measure => simp [intOf]; omega

end Go.Proofs.Ytojcopamegmeeaa
