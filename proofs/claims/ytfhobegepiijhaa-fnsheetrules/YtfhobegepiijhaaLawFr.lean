/-
  The law of rules (promise 56): every Default fits its key.
-/
import Derived.Test.YtfhobegepiijhaaEDf
import Derived.Test.YtfhobegepiijhaaEIf
import Derived.Test.YtfhobegepiijhaaEWw
import Derived.Test.YtfhobegepiijhaaRgG
namespace Go.Proofs.Ytfhobegepiijhaa
open Go.RowKit Go.Deep

theorem Pl.dflt_fits (kind : ByteArray) : ∀ r ∈ Pl.rulesOf kind, r.many = false → Pl.sheetFits kind r.key r.dflt = true := by
  have e : ∀ key ws, Pl.sheetFits kind key ws = match Pl.ruIx (Pl.rulesOf kind) key with
      | none => false
      | some j => Pl.fitsW ((Pl.rulesOf kind).getD j Pl.ruNo).args ws := fun _ _ => rfl
  intro r hr hm
  rw [e]
  revert hr hm
  unfold Pl.rulesOf
  split
  · revert r; decide +kernel
  · split
    · revert r; decide +kernel
    · split
      · revert r; decide +kernel
      · intro h; cases h
theorem rule_parts {W : World} {l : List Pl.Ru} {a : Option Addr} {c : Nat} (h : Raw W [.row 29 shSheetRule] [rulesD l] [.slice a l.length c]) {k : Nat} (hk : k < l.length) {r : Pl.Ru} (hr : r = l.getD k Pl.ruNo) : ∃ p o a1 c1 a3 c3, a = some ⟨p, o, none⟩ ∧ p < W.heap.size ∧ W.rangeAt p (o + k * 4) [.string r.key, .slice a1 r.args.length c1, .bool r.many, .slice a3 r.dflt.length c3] ∧ Raw W [.row 3 [.i]] [.row r.args.length (r.args.map .i)] [.slice a1 r.args.length c1] ∧ Raw W [.row 9 [.s]] [.row r.dflt.length (txD r.dflt)] [.slice a3 r.dflt.length c3] := by
  subst hr
  obtain ⟨p, o, c', a1, c1, v3, hv, hp, hg, h1, h3⟩ := rule_at h hk
  injection hv with e1 _ _
  obtain ⟨a3, c3, e3⟩ := h3.len0
  subst e3
  exact ⟨p, o, a1, c1, a3, c3, e1, hp, hg, h1, h3⟩
theorem int_cell {W : World} {ag : List Int} {a : Option Addr} {c : Nat} (h : Raw W [.row 3 [.i]] [.row ag.length (ag.map .i)] [.slice a ag.length c]) {k : Nat} (hk : k < ag.length) : ∃ p o, a = some ⟨p, o, none⟩ ∧ p < W.heap.size ∧ W.rangeAt p (o + k) [.int .i64 (ag.getD k 0)] := by
  rcases h.slice with ⟨e0, _⟩ | ⟨p, o, c', hv, hp, _, vs, hr, hR⟩
  · omega
  · injection hv with g1 _ _
    obtain ⟨ve, hE, hg⟩ := hR.el hk hr
    have hel : el 1 k (ag.map Dt.i) = [.i (ag.getD k 0)] := by exact el_map1 0 Dt.i ag k hk
    have hE' : Raw W [.i] [.i (ag.getD k 0)] ve := by rw [← hel]; exact hE
    obtain rfl := rawN1 hE'
    exact ⟨p, o, g1, hp, by simpa using hg⟩
def VR11 (pa : Nat) (oa : Nat) (ca : Nat) (pb : Nat) (ob : Nat) (cb : Nat) (n : Nat) (k : Nat) (r : Pl.Ru) (a1 : Option Addr) (a3 : Option Addr) (b1 : Option Addr) (b3 : Option Addr) (c1 : Nat) (c3 : Nat) (d1 : Nat) (d3 : Nat) : Nat → Value → World → Prop
  | 0, vv, _ => vv = .slice (some ⟨pa, oa, none⟩) n ca
  | 1, vv, _ => vv = .int .i64 (k : Int)
  | 2, vv, _ => vv = .pointer (some ⟨pa, oa + k * 4, none⟩)
  | 3, vv, _ => vv = .pointer (some ⟨pa, oa + k * 4, none⟩)
  | 4, vv, _ => vv = .string r.key
  | 5, vv, _ => vv = .slice (some ⟨pb, ob, none⟩) n cb
  | 6, vv, _ => vv = .int .i64 (k : Int)
  | 7, vv, _ => vv = .pointer (some ⟨pb, ob + k * 4, none⟩)
  | 8, vv, _ => vv = .pointer (some ⟨pb, ob + k * 4, none⟩)
  | 9, vv, _ => vv = .string r.key
  | 10, vv, _ => vv = .bool false
  | 11, vv, _ => vv = .bool false
  | 12, vv, _ => vv = .slice (some ⟨pa, oa, none⟩) n ca
  | 13, vv, _ => vv = .int .i64 (k : Int)
  | 14, vv, _ => vv = .pointer (some ⟨pa, oa + k * 4, none⟩)
  | 15, vv, _ => vv = .pointer (some ⟨pa, oa + k * 4 + 2, none⟩)
  | 16, vv, _ => vv = .bool r.many
  | 17, vv, _ => vv = .slice (some ⟨pb, ob, none⟩) n cb
  | 18, vv, _ => vv = .int .i64 (k : Int)
  | 19, vv, _ => vv = .pointer (some ⟨pb, ob + k * 4, none⟩)
  | 20, vv, _ => vv = .pointer (some ⟨pb, ob + k * 4 + 2, none⟩)
  | 21, vv, _ => vv = .bool r.many
  | 22, vv, _ => vv = .bool false
  | 23, vv, _ => vv = .bool false
  | 24, vv, _ => vv = .bool false
  | 25, vv, _ => vv = .slice (some ⟨pa, oa, none⟩) n ca
  | 26, vv, _ => vv = .int .i64 (k : Int)
  | 27, vv, _ => vv = .pointer (some ⟨pa, oa + k * 4, none⟩)
  | 28, vv, _ => vv = .pointer (some ⟨pa, oa + k * 4 + 3, none⟩)
  | 29, vv, _ => vv = .slice a3 r.dflt.length c3
  | 30, vv, _ => vv = .slice (some ⟨pb, ob, none⟩) n cb
  | 31, vv, _ => vv = .int .i64 (k : Int)
  | 32, vv, _ => vv = .pointer (some ⟨pb, ob + k * 4, none⟩)
  | 33, vv, _ => vv = .pointer (some ⟨pb, ob + k * 4 + 3, none⟩)
  | 34, vv, _ => vv = .slice b3 r.dflt.length d3
  | 35, vv, _ => vv = .bool true
  | 36, vv, _ => vv = .bool false
  | 37, vv, _ => vv = .bool false
  | 38, vv, _ => vv = .bool false
  | 39, vv, _ => vv = .slice (some ⟨pa, oa, none⟩) n ca
  | 40, vv, _ => vv = .int .i64 (k : Int)
  | 41, vv, _ => vv = .pointer (some ⟨pa, oa + k * 4, none⟩)
  | 42, vv, _ => vv = .pointer (some ⟨pa, oa + k * 4 + 1, none⟩)
  | 43, vv, _ => vv = .slice a1 r.args.length c1
  | 44, vv, _ => vv = .int .i64 (r.args.length : Int)
  | 45, vv, _ => vv = .slice (some ⟨pb, ob, none⟩) n cb
  | 46, vv, _ => vv = .int .i64 (k : Int)
  | 47, vv, _ => vv = .pointer (some ⟨pb, ob + k * 4, none⟩)
  | 48, vv, _ => vv = .pointer (some ⟨pb, ob + k * 4 + 1, none⟩)
  | 49, vv, _ => vv = .slice b1 r.args.length d1
  | 50, vv, _ => vv = .int .i64 (r.args.length : Int)
  | 51, vv, _ => vv = .bool false
  | 52, vv, _ => vv = .bool false
  | _, _, _ => True
theorem VR11_mono (pa : Nat) (oa : Nat) (ca : Nat) (pb : Nat) (ob : Nat) (cb : Nat) (n : Nat) (k : Nat) (r : Pl.Ru) (a1 : Option Addr) (a3 : Option Addr) (b1 : Option Addr) (b3 : Option Addr) (c1 : Nat) (c3 : Nat) (d1 : Nat) (d3 : Nat) : ∀ jj vv W W', Below W.heap.size W W' → VR11 pa oa ca pb ob cb n k r a1 a3 b1 b3 c1 c3 d1 d3 jj vv W → VR11 pa oa ca pb ob cb n k r a1 a3 b1 b3 c1 c3 d1 d3 jj vv W' := by
  intro jj vv W W' hb h
  match jj with
  | 0 => exact h
  | 1 => exact h
  | 2 => exact h
  | 3 => exact h
  | 4 => exact h
  | 5 => exact h
  | 6 => exact h
  | 7 => exact h
  | 8 => exact h
  | 9 => exact h
  | 10 => exact h
  | 11 => exact h
  | 12 => exact h
  | 13 => exact h
  | 14 => exact h
  | 15 => exact h
  | 16 => exact h
  | 17 => exact h
  | 18 => exact h
  | 19 => exact h
  | 20 => exact h
  | 21 => exact h
  | 22 => exact h
  | 23 => exact h
  | 24 => exact h
  | 25 => exact h
  | 26 => exact h
  | 27 => exact h
  | 28 => exact h
  | 29 => exact h
  | 30 => exact h
  | 31 => exact h
  | 32 => exact h
  | 33 => exact h
  | 34 => exact h
  | 35 => exact h
  | 36 => exact h
  | 37 => exact h
  | 38 => exact h
  | 39 => exact h
  | 40 => exact h
  | 41 => exact h
  | 42 => exact h
  | 43 => exact h
  | 44 => exact h
  | 45 => exact h
  | 46 => exact h
  | 47 => exact h
  | 48 => exact h
  | 49 => exact h
  | 50 => exact h
  | 51 => exact h
  | 52 => exact h
  | n + 53 => exact trivial
def VR16 (pa : Nat) (oa : Nat) (ca : Nat) (pb : Nat) (ob : Nat) (cb : Nat) (n : Nat) (k : Nat) (p1 : Nat) (o1 : Nat) (p2 : Nat) (o2 : Nat) (q : Nat) (r : Pl.Ru) (c1 : Nat) (d1 : Nat) (z : Int) : Nat → Value → World → Prop
  | 0, vv, _ => vv = .slice (some ⟨pa, oa, none⟩) n ca
  | 1, vv, _ => vv = .int .i64 (k : Int)
  | 2, vv, _ => vv = .pointer (some ⟨pa, oa + k * 4, none⟩)
  | 3, vv, _ => vv = .pointer (some ⟨pa, oa + k * 4 + 1, none⟩)
  | 4, vv, _ => vv = .slice (some ⟨p1, o1, none⟩) r.args.length c1
  | 5, vv, _ => vv = .int .i64 (q : Int)
  | 6, vv, _ => vv = .pointer (some ⟨p1, o1 + q, none⟩)
  | 7, vv, _ => vv = .int .i64 z
  | 8, vv, _ => vv = .slice (some ⟨pb, ob, none⟩) n cb
  | 9, vv, _ => vv = .int .i64 (k : Int)
  | 10, vv, _ => vv = .pointer (some ⟨pb, ob + k * 4, none⟩)
  | 11, vv, _ => vv = .pointer (some ⟨pb, ob + k * 4 + 1, none⟩)
  | 12, vv, _ => vv = .slice (some ⟨p2, o2, none⟩) r.args.length d1
  | 13, vv, _ => vv = .int .i64 (q : Int)
  | 14, vv, _ => vv = .pointer (some ⟨p2, o2 + q, none⟩)
  | 15, vv, _ => vv = .int .i64 z
  | 16, vv, _ => vv = .bool false
  | _, _, _ => True
theorem VR16_mono (pa : Nat) (oa : Nat) (ca : Nat) (pb : Nat) (ob : Nat) (cb : Nat) (n : Nat) (k : Nat) (p1 : Nat) (o1 : Nat) (p2 : Nat) (o2 : Nat) (q : Nat) (r : Pl.Ru) (c1 : Nat) (d1 : Nat) (z : Int) : ∀ jj vv W W', Below W.heap.size W W' → VR16 pa oa ca pb ob cb n k p1 o1 p2 o2 q r c1 d1 z jj vv W → VR16 pa oa ca pb ob cb n k p1 o1 p2 o2 q r c1 d1 z jj vv W' := by
  intro jj vv W W' hb h
  match jj with
  | 0 => exact h
  | 1 => exact h
  | 2 => exact h
  | 3 => exact h
  | 4 => exact h
  | 5 => exact h
  | 6 => exact h
  | 7 => exact h
  | 8 => exact h
  | 9 => exact h
  | 10 => exact h
  | 11 => exact h
  | 12 => exact h
  | 13 => exact h
  | 14 => exact h
  | 15 => exact h
  | 16 => exact h
  | n + 17 => exact trivial
def VR18t (pa : Nat) (oa : Nat) (ca : Nat) (n : Nat) (k : Nat) : Nat → Value → World → Prop
  | 0, vv, _ => vv = .slice (some ⟨pa, oa, none⟩) n ca
  | 1, vv, _ => vv = .int .i64 (k : Int)
  | 2, vv, _ => vv = .pointer (some ⟨pa, oa + k * 4, none⟩)
  | 3, vv, _ => vv = .pointer (some ⟨pa, oa + k * 4 + 2, none⟩)
  | 4, vv, _ => vv = .bool true
  | 5, vv, _ => vv = .bool false
  | 6, vv, _ => vv = .bool false
  | 7, vv, _ => vv = undef
  | 8, vv, _ => vv = undef
  | 9, vv, _ => vv = undef
  | 10, vv, _ => vv = undef
  | 11, vv, _ => vv = undef
  | 12, vv, _ => vv = undef
  | 13, vv, _ => vv = undef
  | 14, vv, _ => vv = undef
  | 15, vv, _ => vv = undef
  | 16, vv, _ => vv = undef
  | 17, vv, _ => vv = undef
  | 18, vv, _ => vv = undef
  | 19, vv, _ => vv = undef
  | 20, vv, _ => vv = .bool false
  | _, _, _ => True
theorem VR18t_mono (pa : Nat) (oa : Nat) (ca : Nat) (n : Nat) (k : Nat) : ∀ jj vv W W', Below W.heap.size W W' → VR18t pa oa ca n k jj vv W → VR18t pa oa ca n k jj vv W' := by
  intro jj vv W W' hb h
  match jj with
  | 0 => exact h
  | 1 => exact h
  | 2 => exact h
  | 3 => exact h
  | 4 => exact h
  | 5 => exact h
  | 6 => exact h
  | 7 => exact h
  | 8 => exact h
  | 9 => exact h
  | 10 => exact h
  | 11 => exact h
  | 12 => exact h
  | 13 => exact h
  | 14 => exact h
  | 15 => exact h
  | 16 => exact h
  | 17 => exact h
  | 18 => exact h
  | 19 => exact h
  | 20 => exact h
  | n + 21 => exact trivial
def VR18f (kind : ByteArray) (pa : Nat) (oa : Nat) (ca : Nat) (n : Nat) (k : Nat) (r : Pl.Ru) (a3 : Option Addr) (c3 : Nat) : Nat → Value → World → Prop
  | 0, vv, _ => vv = .slice (some ⟨pa, oa, none⟩) n ca
  | 1, vv, _ => vv = .int .i64 (k : Int)
  | 2, vv, _ => vv = .pointer (some ⟨pa, oa + k * 4, none⟩)
  | 3, vv, _ => vv = .pointer (some ⟨pa, oa + k * 4 + 2, none⟩)
  | 4, vv, _ => vv = .bool false
  | 5, vv, _ => vv = .bool true
  | 6, vv, _ => vv = .bool true
  | 7, vv, _ => vv = .string kind
  | 8, vv, _ => vv = .slice (some ⟨pa, oa, none⟩) n ca
  | 9, vv, _ => vv = .int .i64 (k : Int)
  | 10, vv, _ => vv = .pointer (some ⟨pa, oa + k * 4, none⟩)
  | 11, vv, _ => vv = .pointer (some ⟨pa, oa + k * 4, none⟩)
  | 12, vv, _ => vv = .string r.key
  | 13, vv, _ => vv = .slice (some ⟨pa, oa, none⟩) n ca
  | 14, vv, _ => vv = .int .i64 (k : Int)
  | 15, vv, _ => vv = .pointer (some ⟨pa, oa + k * 4, none⟩)
  | 16, vv, _ => vv = .pointer (some ⟨pa, oa + k * 4 + 3, none⟩)
  | 17, vv, _ => vv = .slice a3 r.dflt.length c3
  | 18, vv, _ => vv = .bool true
  | 19, vv, _ => vv = .bool false
  | 20, vv, _ => vv = .bool false
  | _, _, _ => True
theorem VR18f_mono (kind : ByteArray) (pa : Nat) (oa : Nat) (ca : Nat) (n : Nat) (k : Nat) (r : Pl.Ru) (a3 : Option Addr) (c3 : Nat) : ∀ jj vv W W', Below W.heap.size W W' → VR18f kind pa oa ca n k r a3 c3 jj vv W → VR18f kind pa oa ca n k r a3 c3 jj vv W' := by
  intro jj vv W W' hb h
  match jj with
  | 0 => exact h
  | 1 => exact h
  | 2 => exact h
  | 3 => exact h
  | 4 => exact h
  | 5 => exact h
  | 6 => exact h
  | 7 => exact h
  | 8 => exact h
  | 9 => exact h
  | 10 => exact h
  | 11 => exact h
  | 12 => exact h
  | 13 => exact h
  | 14 => exact h
  | 15 => exact h
  | 16 => exact h
  | 17 => exact h
  | 18 => exact h
  | 19 => exact h
  | 20 => exact h
  | n + 21 => exact trivial

set_option maxRecDepth 8000 in
set_option maxHeartbeats 16000000 in
theorem lawRules (v : Value) (W : World) (h : CodeAt W v) :
    Calls Try.prog 3 #[v] W fun e w' => e = .returned (.bool true) ∧ Below W.heap.size W w' := by
  have HCO := uh h
  obtain ⟨a, n0, c, hv⟩ : ∃ a n c, v = .slice a n c := by rcases h with ⟨a, c, e⟩ | ⟨b, off, n, cap, e, _⟩; exact ⟨_, _, _, e⟩; exact ⟨_, _, _, e⟩
  subst hv
  clear h
  go_enter Try.func3, Try.ntmps3
  by_cases hbig : (1048576 : Int) < (n0 : Int)
  · go_wp2
    go_ret
    exact ⟨rfl, Below.refl _ _⟩
  have HD := uh (drawKind _ W HCO.out)
  go_wp2_with fail
  refine HD.out.mono ?_
  rintro e W1 ⟨⟨kind, rfl, hs⟩, hb1⟩
  have HB1 := uh hb1
  clear HD hb1
  have HI := uh (sheetRulesI kind W1)
  go_wp2_with fail
  refine HI.out.mono ?_
  rintro e W2 ⟨va, Fa, rfl, hra, _, _, hb2⟩
  have HRA := uh hra.raw
  have HB2 := uh (blw_trans HB1.out hb2)
  obtain ⟨aa, ca, hva⟩ := hra.raw.len0
  subst hva
  clear HI hra hb2 HB1
  have HS := uh (sheetRulesS kind W2)
  go_wp2_with fail
  refine HS.out.mono ?_
  rintro e W3 ⟨vb, Fb, rfl, hrb, _, _, hb3⟩
  replace HRA := uh (HRA.out.later hb3)
  have HRB := uh hrb.raw
  have HB3 := uh (blw_trans HB2.out hb3)
  obtain ⟨ab, cb, hvb⟩ := hrb.raw.len0
  subst hvb
  clear HS hrb hb3 HB2
  have HFIT := uh (Pl.dflt_fits kind)
  have HL100 := uh (Pl.rules_len kind)
  have HSZD := uh (Pl.rules_dflt kind)
  have HAR3 := uh (Pl.rules_args3 kind)
  obtain ⟨l, hl⟩ : ∃ l, l = Pl.rulesOf kind := ⟨_, rfl⟩
  rw [← hl] at HRA HRB HFIT HL100 HSZD HAR3
  rw [← hl]
  clear hl
  obtain ⟨n, hn⟩ : ∃ n, n = l.length := ⟨_, rfl⟩
  have HN := uh hn
  rw [← hn] at HL100
  rw [← hn]
  clear hn
  have hl100 := HL100.out
  have hnn : ((n : Int) != (n : Int)) = false := by simp
  go_wp2
  clear hnn
  go_loopw [6] (fun i wr => ∃ k : Nat, k ≤ n ∧ i = .int .i64 k ∧ Hid (Below W3.heap.size W3 wr)) (fun i _ => n - (intOf i).toNat)
  case atStart => exact ⟨0, Nat.zero_le _, rfl, Below.refl _ _⟩
  case round =>
    obtain ⟨k, hk, rfl, HBR⟩ := hrel
    by_cases hlt : k < n
    rotate_left
    · obtain rfl : k = n := by omega
      have HBW := uh (blw_trans HB3.out HBR.out)
      have HDF := uh (drawFits _ wr (HCO.out.later HBW.out))
      clear HRA HRB HFIT HSZD HB3 HBR
      go_wp2_with fail
      refine HDF.out.mono ?_
      rintro e W5 ⟨⟨k1, key, wv, ws, rfl, hT, hw, hsz⟩, hb5⟩
      have HB5 := uh (blw_trans HBW.out hb5)
      obtain ⟨F5, hrep5, _, _⟩ := hT.done
      have hx5 := hrep5.raw
      have hsm : ∀ x ∈ ws, x.size ≤ maxLen := fun x hx => Nat.le_trans (hsz x hx) (by decide)
      have HF1 := uh (sheetFitsV k1 key ws wv W5 hx5 hsm)
      have HX5 := uh hx5
      have HSM := uh hsm
      obtain ⟨wa, wc, hwv⟩ := hx5.len0
      subst hwv
      clear HDF hT hsz hb5 hrep5 hx5 hsm HBW
      go_wp2_with fail
      refine HF1.out.mono ?_
      rintro e W6 ⟨rfl, hb6⟩
      have HF2 := uh (sheetFitsS k1 key ws (.slice wa ws.length wc) W6 (HX5.out.later hb6) HSM.out)
      have HB6 := uh (blw_trans HB5.out hb6)
      clear HF1 hb6
      go_wp2_with fail
      refine HF2.out.mono ?_
      rintro e W7 ⟨rfl, hb7⟩
      have HB7 := uh (blw_trans HB6.out hb7)
      clear HF2 hb7
      go_wp2
      go_ret
      exact ⟨by simp, HB7.out⟩
    have hkl : k < l.length := by have := HN.out; omega
    obtain ⟨r, hr⟩ : ∃ r, r = l.getD k Pl.ruNo := ⟨_, rfl⟩
    have hmem : r ∈ l := by
      have e : l.getD k Pl.ruNo = l[k] := by simp [hkl]
      rw [hr, e]; exact List.getElem_mem hkl
    obtain ⟨pa, oa, a1, c1, a3, c3, ea, hpa, hga, hai, had⟩ := rule_parts (HRA.out.later HBR.out) hkl hr
    obtain ⟨pb, ob, b1, d1, b3, d3, eb, hpb, hgb, hbi, hbd⟩ := rule_parts (HRB.out.later HBR.out) hkl hr
    subst ea; subst eb
    have HGA := uh hga
    have HPA := uh hpa
    have HGB := uh hgb
    have HPB := uh hpb
    have HAI := uh hai
    have HBI := uh hbi
    have HAD := uh had
    have HDZ := HSZD.out r hmem
    have hz3 := HAR3.out r hmem
    have HFR := uh (HFIT.out r hmem)
    have HDS : Hid (∀ x ∈ r.dflt, x.size ≤ maxLen) := fun x hx => Nat.le_trans (HDZ.2.2 x hx) (by decide)
    have HWT : Hid (∀ X, Below wr.heap.size wr X → Calls Try.prog 7 #[.slice a3 r.dflt.length c3, .slice b3 r.dflt.length d3] X fun e W' => e = .returned (.bool true) ∧ Below X.heap.size X W') := fun X hX => wtWordsL r.dflt a3 b3 c3 d3 X (had.later hX) (hbd.later hX) (by have := HDZ.1; omega)
    have hk0 : (0 : Int) ≤ (k : Int) := by omega
    have hkn : (k : Int) < (n : Int) := by omega
    clear hr hga hpa hgb hpb hai hbi had hbd hmem hkl
    go_upto_region 11 with fail
    refine RY.region_pastG wr (Below.refl _ _) (VR11 pa oa ca pb ob cb n k r a1 a3 b1 b3 c1 c3 d1 d3) (VR11_mono _ _ _ _ _ _ _ _ _ _ _ _ _ _ _ _ _) (by kernel_rfl) (by kernel_rfl) (by kernel_rfl) (by kernel_rfl) ?_ ?_
    · intro ii o' ho a X hX hk hd
      match ii, ho with
      | 0, ho =>
        injection ho with ho; subst ho
        have e4 : a.tmps[4]?.getD undef = .slice (some ⟨pa, oa, none⟩) n ca := (RY.ev_tmp a 4).trans ((hk 4 (by kernel_rfl)).trans rfl)
        exact Or.inl ⟨RY.wanted_no rfl, Or.inl ⟨.slice (some ⟨pa, oa, none⟩) n ca, X, by simp [execOp, go_sem, e4], Below.refl _ _, rfl⟩⟩
      | 1, ho =>
        injection ho with ho; subst ho
        have e6 : a.tmps[6]?.getD undef = .int .i64 (k : Int) := (RY.ev_tmp a 6).trans ((hk 6 (by kernel_rfl)).trans rfl)
        exact Or.inl ⟨RY.wanted_no rfl, Or.inl ⟨.int .i64 (k : Int), X, by simp [execOp, go_sem, e6], Below.refl _ _, rfl⟩⟩
      | 2, ho =>
        injection ho with ho; subst ho
        have e31 : a.tmps[31]?.getD undef = .slice (some ⟨pa, oa, none⟩) n ca := (RY.ev_tmp a 31).trans (hd 0 _ 31 rfl rfl ⟨⟨0, .data⟩, by simp, rfl, rfl⟩)
        have e32 : a.tmps[32]?.getD undef = .int .i64 (k : Int) := (RY.ev_tmp a 32).trans (hd 1 _ 32 rfl rfl ⟨⟨1, .data⟩, by simp, rfl, rfl⟩)
        exact Or.inl ⟨RY.wanted_no rfl, Or.inl ⟨.pointer (some ⟨pa, oa + k * 4, none⟩), X, by simp [execOp, go_sem, e31, e32, hk0, hkn], Below.refl _ _, rfl⟩⟩
      | 3, ho =>
        injection ho with ho; subst ho
        have e33 : a.tmps[33]?.getD undef = .pointer (some ⟨pa, oa + k * 4, none⟩) := (RY.ev_tmp a 33).trans (hd 2 _ 33 rfl rfl ⟨⟨2, .data⟩, by simp, rfl, rfl⟩)
        exact Or.inl ⟨RY.wanted_no rfl, Or.inl ⟨.pointer (some ⟨pa, oa + k * 4, none⟩), X, by simp [execOp, go_sem, e33], Below.refl _ _, rfl⟩⟩
      | 4, ho =>
        injection ho with ho; subst ho
        have e34 : a.tmps[34]?.getD undef = .pointer (some ⟨pa, oa + k * 4, none⟩) := (RY.ev_tmp a 34).trans (hd 3 _ 34 rfl rfl ⟨⟨3, .data⟩, by simp, rfl, rfl⟩)
        have ypl_ := Nat.lt_of_lt_of_le HPA.out hX.size
        have ycl_ : X.cell? ⟨pa, oa + k * 4, none⟩ = some (.string r.key) := by have q := rA_get (rA_later HGA.out HPA.out hX) 0 _ rfl; simpa using q
        exact Or.inl ⟨RY.wanted_no rfl, Or.inl ⟨.string r.key, X, by simp [execOp, go_sem, e34, ycl_], Below.refl _ _, rfl⟩⟩
      | 5, ho =>
        injection ho with ho; subst ho
        have e5 : a.tmps[5]?.getD undef = .slice (some ⟨pb, ob, none⟩) n cb := (RY.ev_tmp a 5).trans ((hk 5 (by kernel_rfl)).trans rfl)
        exact Or.inl ⟨RY.wanted_no rfl, Or.inl ⟨.slice (some ⟨pb, ob, none⟩) n cb, X, by simp [execOp, go_sem, e5], Below.refl _ _, rfl⟩⟩
      | 6, ho =>
        injection ho with ho; subst ho
        have e6 : a.tmps[6]?.getD undef = .int .i64 (k : Int) := (RY.ev_tmp a 6).trans ((hk 6 (by kernel_rfl)).trans rfl)
        exact Or.inl ⟨RY.wanted_no rfl, Or.inl ⟨.int .i64 (k : Int), X, by simp [execOp, go_sem, e6], Below.refl _ _, rfl⟩⟩
      | 7, ho =>
        injection ho with ho; subst ho
        have e36 : a.tmps[36]?.getD undef = .slice (some ⟨pb, ob, none⟩) n cb := (RY.ev_tmp a 36).trans (hd 5 _ 36 rfl rfl ⟨⟨5, .data⟩, by simp, rfl, rfl⟩)
        have e37 : a.tmps[37]?.getD undef = .int .i64 (k : Int) := (RY.ev_tmp a 37).trans (hd 6 _ 37 rfl rfl ⟨⟨6, .data⟩, by simp, rfl, rfl⟩)
        exact Or.inl ⟨RY.wanted_no rfl, Or.inl ⟨.pointer (some ⟨pb, ob + k * 4, none⟩), X, by simp [execOp, go_sem, e36, e37, hk0, hkn], Below.refl _ _, rfl⟩⟩
      | 8, ho =>
        injection ho with ho; subst ho
        have e38 : a.tmps[38]?.getD undef = .pointer (some ⟨pb, ob + k * 4, none⟩) := (RY.ev_tmp a 38).trans (hd 7 _ 38 rfl rfl ⟨⟨7, .data⟩, by simp, rfl, rfl⟩)
        exact Or.inl ⟨RY.wanted_no rfl, Or.inl ⟨.pointer (some ⟨pb, ob + k * 4, none⟩), X, by simp [execOp, go_sem, e38], Below.refl _ _, rfl⟩⟩
      | 9, ho =>
        injection ho with ho; subst ho
        have e39 : a.tmps[39]?.getD undef = .pointer (some ⟨pb, ob + k * 4, none⟩) := (RY.ev_tmp a 39).trans (hd 8 _ 39 rfl rfl ⟨⟨8, .data⟩, by simp, rfl, rfl⟩)
        have ypl_ := Nat.lt_of_lt_of_le HPB.out hX.size
        have ycl_ : X.cell? ⟨pb, ob + k * 4, none⟩ = some (.string r.key) := by have q := rA_get (rA_later HGB.out HPB.out hX) 0 _ rfl; simpa using q
        exact Or.inl ⟨RY.wanted_no rfl, Or.inl ⟨.string r.key, X, by simp [execOp, go_sem, e39, ycl_], Below.refl _ _, rfl⟩⟩
      | 10, ho =>
        injection ho with ho; subst ho
        have e35 : a.tmps[35]?.getD undef = .string r.key := (RY.ev_tmp a 35).trans (hd 4 _ 35 rfl rfl ⟨⟨4, .data⟩, by simp, rfl, rfl⟩)
        have e40 : a.tmps[40]?.getD undef = .string r.key := (RY.ev_tmp a 40).trans (hd 9 _ 40 rfl rfl ⟨⟨9, .data⟩, by simp, rfl, rfl⟩)
        exact Or.inl ⟨RY.wanted_no rfl, Or.inl ⟨.bool false, X, by simp [execOp, go_sem, e35, e40], Below.refl _ _, rfl⟩⟩
      | 11, ho =>
        injection ho with ho; subst ho
        have e41 : a.tmps[41]?.getD undef = .bool false := (RY.ev_tmp a 41).trans (hd 10 _ 41 rfl rfl ⟨⟨10, .data⟩, by simp, rfl, rfl⟩)
        exact Or.inl ⟨RY.wanted_no rfl, Or.inl ⟨.bool false, X, by simp [execOp, go_sem, e41], Below.refl _ _, rfl⟩⟩
      | 12, ho =>
        injection ho with ho; subst ho
        have gd := hd 11 _ 42 rfl rfl ⟨⟨11, .guard⟩, by simp, rfl, rfl⟩
        have e4 : a.tmps[4]?.getD undef = .slice (some ⟨pa, oa, none⟩) n ca := (RY.ev_tmp a 4).trans ((hk 4 (by kernel_rfl)).trans rfl)
        exact Or.inl ⟨(RY.wanted_at rfl rfl rfl gd).trans rfl, Or.inl ⟨.slice (some ⟨pa, oa, none⟩) n ca, X, by simp [execOp, go_sem, e4], Below.refl _ _, rfl⟩⟩
      | 13, ho =>
        injection ho with ho; subst ho
        have gd := hd 11 _ 42 rfl rfl ⟨⟨11, .guard⟩, by simp, rfl, rfl⟩
        have e6 : a.tmps[6]?.getD undef = .int .i64 (k : Int) := (RY.ev_tmp a 6).trans ((hk 6 (by kernel_rfl)).trans rfl)
        exact Or.inl ⟨(RY.wanted_at rfl rfl rfl gd).trans rfl, Or.inl ⟨.int .i64 (k : Int), X, by simp [execOp, go_sem, e6], Below.refl _ _, rfl⟩⟩
      | 14, ho =>
        injection ho with ho; subst ho
        have gd := hd 11 _ 42 rfl rfl ⟨⟨11, .guard⟩, by simp, rfl, rfl⟩
        have e43 : a.tmps[43]?.getD undef = .slice (some ⟨pa, oa, none⟩) n ca := (RY.ev_tmp a 43).trans (hd 12 _ 43 rfl rfl ⟨⟨12, .data⟩, by simp, rfl, rfl⟩)
        have e44 : a.tmps[44]?.getD undef = .int .i64 (k : Int) := (RY.ev_tmp a 44).trans (hd 13 _ 44 rfl rfl ⟨⟨13, .data⟩, by simp, rfl, rfl⟩)
        exact Or.inl ⟨(RY.wanted_at rfl rfl rfl gd).trans rfl, Or.inl ⟨.pointer (some ⟨pa, oa + k * 4, none⟩), X, by simp [execOp, go_sem, e43, e44, hk0, hkn], Below.refl _ _, rfl⟩⟩
      | 15, ho =>
        injection ho with ho; subst ho
        have gd := hd 11 _ 42 rfl rfl ⟨⟨11, .guard⟩, by simp, rfl, rfl⟩
        have e45 : a.tmps[45]?.getD undef = .pointer (some ⟨pa, oa + k * 4, none⟩) := (RY.ev_tmp a 45).trans (hd 14 _ 45 rfl rfl ⟨⟨14, .data⟩, by simp, rfl, rfl⟩)
        exact Or.inl ⟨(RY.wanted_at rfl rfl rfl gd).trans rfl, Or.inl ⟨.pointer (some ⟨pa, oa + k * 4 + 2, none⟩), X, by simp [execOp, go_sem, e45], Below.refl _ _, rfl⟩⟩
      | 16, ho =>
        injection ho with ho; subst ho
        have gd := hd 11 _ 42 rfl rfl ⟨⟨11, .guard⟩, by simp, rfl, rfl⟩
        have e46 : a.tmps[46]?.getD undef = .pointer (some ⟨pa, oa + k * 4 + 2, none⟩) := (RY.ev_tmp a 46).trans (hd 15 _ 46 rfl rfl ⟨⟨15, .data⟩, by simp, rfl, rfl⟩)
        have ypl_ := Nat.lt_of_lt_of_le HPA.out hX.size
        have ycl_ : X.cell? ⟨pa, oa + k * 4 + 2, none⟩ = some (.bool r.many) := by have q := rA_get (rA_later HGA.out HPA.out hX) 2 _ rfl; simpa using q
        exact Or.inl ⟨(RY.wanted_at rfl rfl rfl gd).trans rfl, Or.inl ⟨.bool r.many, X, by simp [execOp, go_sem, e46, ycl_], Below.refl _ _, rfl⟩⟩
      | 17, ho =>
        injection ho with ho; subst ho
        have gd := hd 11 _ 42 rfl rfl ⟨⟨11, .guard⟩, by simp, rfl, rfl⟩
        have e5 : a.tmps[5]?.getD undef = .slice (some ⟨pb, ob, none⟩) n cb := (RY.ev_tmp a 5).trans ((hk 5 (by kernel_rfl)).trans rfl)
        exact Or.inl ⟨(RY.wanted_at rfl rfl rfl gd).trans rfl, Or.inl ⟨.slice (some ⟨pb, ob, none⟩) n cb, X, by simp [execOp, go_sem, e5], Below.refl _ _, rfl⟩⟩
      | 18, ho =>
        injection ho with ho; subst ho
        have gd := hd 11 _ 42 rfl rfl ⟨⟨11, .guard⟩, by simp, rfl, rfl⟩
        have e6 : a.tmps[6]?.getD undef = .int .i64 (k : Int) := (RY.ev_tmp a 6).trans ((hk 6 (by kernel_rfl)).trans rfl)
        exact Or.inl ⟨(RY.wanted_at rfl rfl rfl gd).trans rfl, Or.inl ⟨.int .i64 (k : Int), X, by simp [execOp, go_sem, e6], Below.refl _ _, rfl⟩⟩
      | 19, ho =>
        injection ho with ho; subst ho
        have gd := hd 11 _ 42 rfl rfl ⟨⟨11, .guard⟩, by simp, rfl, rfl⟩
        have e48 : a.tmps[48]?.getD undef = .slice (some ⟨pb, ob, none⟩) n cb := (RY.ev_tmp a 48).trans (hd 17 _ 48 rfl rfl ⟨⟨17, .data⟩, by simp, rfl, rfl⟩)
        have e49 : a.tmps[49]?.getD undef = .int .i64 (k : Int) := (RY.ev_tmp a 49).trans (hd 18 _ 49 rfl rfl ⟨⟨18, .data⟩, by simp, rfl, rfl⟩)
        exact Or.inl ⟨(RY.wanted_at rfl rfl rfl gd).trans rfl, Or.inl ⟨.pointer (some ⟨pb, ob + k * 4, none⟩), X, by simp [execOp, go_sem, e48, e49, hk0, hkn], Below.refl _ _, rfl⟩⟩
      | 20, ho =>
        injection ho with ho; subst ho
        have gd := hd 11 _ 42 rfl rfl ⟨⟨11, .guard⟩, by simp, rfl, rfl⟩
        have e50 : a.tmps[50]?.getD undef = .pointer (some ⟨pb, ob + k * 4, none⟩) := (RY.ev_tmp a 50).trans (hd 19 _ 50 rfl rfl ⟨⟨19, .data⟩, by simp, rfl, rfl⟩)
        exact Or.inl ⟨(RY.wanted_at rfl rfl rfl gd).trans rfl, Or.inl ⟨.pointer (some ⟨pb, ob + k * 4 + 2, none⟩), X, by simp [execOp, go_sem, e50], Below.refl _ _, rfl⟩⟩
      | 21, ho =>
        injection ho with ho; subst ho
        have gd := hd 11 _ 42 rfl rfl ⟨⟨11, .guard⟩, by simp, rfl, rfl⟩
        have e51 : a.tmps[51]?.getD undef = .pointer (some ⟨pb, ob + k * 4 + 2, none⟩) := (RY.ev_tmp a 51).trans (hd 20 _ 51 rfl rfl ⟨⟨20, .data⟩, by simp, rfl, rfl⟩)
        have ypl_ := Nat.lt_of_lt_of_le HPB.out hX.size
        have ycl_ : X.cell? ⟨pb, ob + k * 4 + 2, none⟩ = some (.bool r.many) := by have q := rA_get (rA_later HGB.out HPB.out hX) 2 _ rfl; simpa using q
        exact Or.inl ⟨(RY.wanted_at rfl rfl rfl gd).trans rfl, Or.inl ⟨.bool r.many, X, by simp [execOp, go_sem, e51, ycl_], Below.refl _ _, rfl⟩⟩
      | 22, ho =>
        injection ho with ho; subst ho
        have gd := hd 11 _ 42 rfl rfl ⟨⟨11, .guard⟩, by simp, rfl, rfl⟩
        have e47 : a.tmps[47]?.getD undef = .bool r.many := (RY.ev_tmp a 47).trans (hd 16 _ 47 rfl rfl ⟨⟨16, .data⟩, by simp, rfl, rfl⟩)
        have e52 : a.tmps[52]?.getD undef = .bool r.many := (RY.ev_tmp a 52).trans (hd 21 _ 52 rfl rfl ⟨⟨21, .data⟩, by simp, rfl, rfl⟩)
        exact Or.inl ⟨(RY.wanted_at rfl rfl rfl gd).trans rfl, Or.inl ⟨.bool false, X, by simp [execOp, go_sem, e47, e52], Below.refl _ _, rfl⟩⟩
      | 23, ho =>
        injection ho with ho; subst ho
        have e42 : a.tmps[42]?.getD undef = .bool false := (RY.ev_tmp a 42).trans (hd 11 _ 42 rfl rfl ⟨⟨11, .data⟩, by simp, rfl, rfl⟩)
        have e53 : a.tmps[53]?.getD undef = .bool false := (RY.ev_tmp a 53).trans (hd 22 _ 53 rfl rfl ⟨⟨22, .data⟩, by simp, rfl, rfl⟩)
        exact Or.inl ⟨RY.wanted_no rfl, Or.inl ⟨.bool false, X, by simp [execOp, go_sem, e42, e53], Below.refl _ _, rfl⟩⟩
      | 24, ho =>
        injection ho with ho; subst ho
        have e54 : a.tmps[54]?.getD undef = .bool false := (RY.ev_tmp a 54).trans (hd 23 _ 54 rfl rfl ⟨⟨23, .data⟩, by simp, rfl, rfl⟩)
        exact Or.inl ⟨RY.wanted_no rfl, Or.inl ⟨.bool false, X, by simp [execOp, go_sem, e54], Below.refl _ _, rfl⟩⟩
      | 25, ho =>
        injection ho with ho; subst ho
        have gd := hd 24 _ 55 rfl rfl ⟨⟨24, .guard⟩, by simp, rfl, rfl⟩
        have e4 : a.tmps[4]?.getD undef = .slice (some ⟨pa, oa, none⟩) n ca := (RY.ev_tmp a 4).trans ((hk 4 (by kernel_rfl)).trans rfl)
        exact Or.inl ⟨(RY.wanted_at rfl rfl rfl gd).trans rfl, Or.inl ⟨.slice (some ⟨pa, oa, none⟩) n ca, X, by simp [execOp, go_sem, e4], Below.refl _ _, rfl⟩⟩
      | 26, ho =>
        injection ho with ho; subst ho
        have gd := hd 24 _ 55 rfl rfl ⟨⟨24, .guard⟩, by simp, rfl, rfl⟩
        have e6 : a.tmps[6]?.getD undef = .int .i64 (k : Int) := (RY.ev_tmp a 6).trans ((hk 6 (by kernel_rfl)).trans rfl)
        exact Or.inl ⟨(RY.wanted_at rfl rfl rfl gd).trans rfl, Or.inl ⟨.int .i64 (k : Int), X, by simp [execOp, go_sem, e6], Below.refl _ _, rfl⟩⟩
      | 27, ho =>
        injection ho with ho; subst ho
        have gd := hd 24 _ 55 rfl rfl ⟨⟨24, .guard⟩, by simp, rfl, rfl⟩
        have e56 : a.tmps[56]?.getD undef = .slice (some ⟨pa, oa, none⟩) n ca := (RY.ev_tmp a 56).trans (hd 25 _ 56 rfl rfl ⟨⟨25, .data⟩, by simp, rfl, rfl⟩)
        have e57 : a.tmps[57]?.getD undef = .int .i64 (k : Int) := (RY.ev_tmp a 57).trans (hd 26 _ 57 rfl rfl ⟨⟨26, .data⟩, by simp, rfl, rfl⟩)
        exact Or.inl ⟨(RY.wanted_at rfl rfl rfl gd).trans rfl, Or.inl ⟨.pointer (some ⟨pa, oa + k * 4, none⟩), X, by simp [execOp, go_sem, e56, e57, hk0, hkn], Below.refl _ _, rfl⟩⟩
      | 28, ho =>
        injection ho with ho; subst ho
        have gd := hd 24 _ 55 rfl rfl ⟨⟨24, .guard⟩, by simp, rfl, rfl⟩
        have e58 : a.tmps[58]?.getD undef = .pointer (some ⟨pa, oa + k * 4, none⟩) := (RY.ev_tmp a 58).trans (hd 27 _ 58 rfl rfl ⟨⟨27, .data⟩, by simp, rfl, rfl⟩)
        exact Or.inl ⟨(RY.wanted_at rfl rfl rfl gd).trans rfl, Or.inl ⟨.pointer (some ⟨pa, oa + k * 4 + 3, none⟩), X, by simp [execOp, go_sem, e58], Below.refl _ _, rfl⟩⟩
      | 29, ho =>
        injection ho with ho; subst ho
        have gd := hd 24 _ 55 rfl rfl ⟨⟨24, .guard⟩, by simp, rfl, rfl⟩
        have e59 : a.tmps[59]?.getD undef = .pointer (some ⟨pa, oa + k * 4 + 3, none⟩) := (RY.ev_tmp a 59).trans (hd 28 _ 59 rfl rfl ⟨⟨28, .data⟩, by simp, rfl, rfl⟩)
        have ypl_ := Nat.lt_of_lt_of_le HPA.out hX.size
        have ycl_ : X.cell? ⟨pa, oa + k * 4 + 3, none⟩ = some (.slice a3 r.dflt.length c3) := by have q := rA_get (rA_later HGA.out HPA.out hX) 3 _ rfl; simpa using q
        exact Or.inl ⟨(RY.wanted_at rfl rfl rfl gd).trans rfl, Or.inl ⟨.slice a3 r.dflt.length c3, X, by simp [execOp, go_sem, e59, ycl_], Below.refl _ _, rfl⟩⟩
      | 30, ho =>
        injection ho with ho; subst ho
        have gd := hd 24 _ 55 rfl rfl ⟨⟨24, .guard⟩, by simp, rfl, rfl⟩
        have e5 : a.tmps[5]?.getD undef = .slice (some ⟨pb, ob, none⟩) n cb := (RY.ev_tmp a 5).trans ((hk 5 (by kernel_rfl)).trans rfl)
        exact Or.inl ⟨(RY.wanted_at rfl rfl rfl gd).trans rfl, Or.inl ⟨.slice (some ⟨pb, ob, none⟩) n cb, X, by simp [execOp, go_sem, e5], Below.refl _ _, rfl⟩⟩
      | 31, ho =>
        injection ho with ho; subst ho
        have gd := hd 24 _ 55 rfl rfl ⟨⟨24, .guard⟩, by simp, rfl, rfl⟩
        have e6 : a.tmps[6]?.getD undef = .int .i64 (k : Int) := (RY.ev_tmp a 6).trans ((hk 6 (by kernel_rfl)).trans rfl)
        exact Or.inl ⟨(RY.wanted_at rfl rfl rfl gd).trans rfl, Or.inl ⟨.int .i64 (k : Int), X, by simp [execOp, go_sem, e6], Below.refl _ _, rfl⟩⟩
      | 32, ho =>
        injection ho with ho; subst ho
        have gd := hd 24 _ 55 rfl rfl ⟨⟨24, .guard⟩, by simp, rfl, rfl⟩
        have e61 : a.tmps[61]?.getD undef = .slice (some ⟨pb, ob, none⟩) n cb := (RY.ev_tmp a 61).trans (hd 30 _ 61 rfl rfl ⟨⟨30, .data⟩, by simp, rfl, rfl⟩)
        have e62 : a.tmps[62]?.getD undef = .int .i64 (k : Int) := (RY.ev_tmp a 62).trans (hd 31 _ 62 rfl rfl ⟨⟨31, .data⟩, by simp, rfl, rfl⟩)
        exact Or.inl ⟨(RY.wanted_at rfl rfl rfl gd).trans rfl, Or.inl ⟨.pointer (some ⟨pb, ob + k * 4, none⟩), X, by simp [execOp, go_sem, e61, e62, hk0, hkn], Below.refl _ _, rfl⟩⟩
      | 33, ho =>
        injection ho with ho; subst ho
        have gd := hd 24 _ 55 rfl rfl ⟨⟨24, .guard⟩, by simp, rfl, rfl⟩
        have e63 : a.tmps[63]?.getD undef = .pointer (some ⟨pb, ob + k * 4, none⟩) := (RY.ev_tmp a 63).trans (hd 32 _ 63 rfl rfl ⟨⟨32, .data⟩, by simp, rfl, rfl⟩)
        exact Or.inl ⟨(RY.wanted_at rfl rfl rfl gd).trans rfl, Or.inl ⟨.pointer (some ⟨pb, ob + k * 4 + 3, none⟩), X, by simp [execOp, go_sem, e63], Below.refl _ _, rfl⟩⟩
      | 34, ho =>
        injection ho with ho; subst ho
        have gd := hd 24 _ 55 rfl rfl ⟨⟨24, .guard⟩, by simp, rfl, rfl⟩
        have e64 : a.tmps[64]?.getD undef = .pointer (some ⟨pb, ob + k * 4 + 3, none⟩) := (RY.ev_tmp a 64).trans (hd 33 _ 64 rfl rfl ⟨⟨33, .data⟩, by simp, rfl, rfl⟩)
        have ypl_ := Nat.lt_of_lt_of_le HPB.out hX.size
        have ycl_ : X.cell? ⟨pb, ob + k * 4 + 3, none⟩ = some (.slice b3 r.dflt.length d3) := by have q := rA_get (rA_later HGB.out HPB.out hX) 3 _ rfl; simpa using q
        exact Or.inl ⟨(RY.wanted_at rfl rfl rfl gd).trans rfl, Or.inl ⟨.slice b3 r.dflt.length d3, X, by simp [execOp, go_sem, e64, ycl_], Below.refl _ _, rfl⟩⟩
      | 35, ho =>
        injection ho with ho; subst ho
        have gd := hd 24 _ 55 rfl rfl ⟨⟨24, .guard⟩, by simp, rfl, rfl⟩
        have e60 : a.tmps[60]?.getD undef = .slice a3 r.dflt.length c3 := (RY.ev_tmp a 60).trans (hd 29 _ 60 rfl rfl ⟨⟨29, .data⟩, by simp, rfl, rfl⟩)
        have e65 : a.tmps[65]?.getD undef = .slice b3 r.dflt.length d3 := (RY.ev_tmp a 65).trans (hd 34 _ 65 rfl rfl ⟨⟨34, .data⟩, by simp, rfl, rfl⟩)
        refine Or.inl ⟨(RY.wanted_at rfl rfl rfl gd).trans rfl, Or.inr ⟨7, #[.slice a3 r.dflt.length c3, .slice b3 r.dflt.length d3], by simp [go_sem, e60, e65], (HWT.out X hX).mono ?_⟩⟩
        rintro e W' ⟨rfl, hb⟩
        exact ⟨_, rfl, hb, rfl⟩
      | 36, ho =>
        injection ho with ho; subst ho
        have gd := hd 24 _ 55 rfl rfl ⟨⟨24, .guard⟩, by simp, rfl, rfl⟩
        have e66 : a.tmps[66]?.getD undef = .bool true := (RY.ev_tmp a 66).trans (hd 35 _ 66 rfl rfl ⟨⟨35, .data⟩, by simp, rfl, rfl⟩)
        exact Or.inl ⟨(RY.wanted_at rfl rfl rfl gd).trans rfl, Or.inl ⟨.bool false, X, by simp [execOp, go_sem, e66], Below.refl _ _, rfl⟩⟩
      | 37, ho =>
        injection ho with ho; subst ho
        have e55 : a.tmps[55]?.getD undef = .bool false := (RY.ev_tmp a 55).trans (hd 24 _ 55 rfl rfl ⟨⟨24, .data⟩, by simp, rfl, rfl⟩)
        have e67 : a.tmps[67]?.getD undef = .bool false := (RY.ev_tmp a 67).trans (hd 36 _ 67 rfl rfl ⟨⟨36, .data⟩, by simp, rfl, rfl⟩)
        exact Or.inl ⟨RY.wanted_no rfl, Or.inl ⟨.bool false, X, by simp [execOp, go_sem, e55, e67], Below.refl _ _, rfl⟩⟩
      | 38, ho =>
        injection ho with ho; subst ho
        have e68 : a.tmps[68]?.getD undef = .bool false := (RY.ev_tmp a 68).trans (hd 37 _ 68 rfl rfl ⟨⟨37, .data⟩, by simp, rfl, rfl⟩)
        exact Or.inl ⟨RY.wanted_no rfl, Or.inl ⟨.bool false, X, by simp [execOp, go_sem, e68], Below.refl _ _, rfl⟩⟩
      | 39, ho =>
        injection ho with ho; subst ho
        have gd := hd 38 _ 69 rfl rfl ⟨⟨38, .guard⟩, by simp, rfl, rfl⟩
        have e4 : a.tmps[4]?.getD undef = .slice (some ⟨pa, oa, none⟩) n ca := (RY.ev_tmp a 4).trans ((hk 4 (by kernel_rfl)).trans rfl)
        exact Or.inl ⟨(RY.wanted_at rfl rfl rfl gd).trans rfl, Or.inl ⟨.slice (some ⟨pa, oa, none⟩) n ca, X, by simp [execOp, go_sem, e4], Below.refl _ _, rfl⟩⟩
      | 40, ho =>
        injection ho with ho; subst ho
        have gd := hd 38 _ 69 rfl rfl ⟨⟨38, .guard⟩, by simp, rfl, rfl⟩
        have e6 : a.tmps[6]?.getD undef = .int .i64 (k : Int) := (RY.ev_tmp a 6).trans ((hk 6 (by kernel_rfl)).trans rfl)
        exact Or.inl ⟨(RY.wanted_at rfl rfl rfl gd).trans rfl, Or.inl ⟨.int .i64 (k : Int), X, by simp [execOp, go_sem, e6], Below.refl _ _, rfl⟩⟩
      | 41, ho =>
        injection ho with ho; subst ho
        have gd := hd 38 _ 69 rfl rfl ⟨⟨38, .guard⟩, by simp, rfl, rfl⟩
        have e70 : a.tmps[70]?.getD undef = .slice (some ⟨pa, oa, none⟩) n ca := (RY.ev_tmp a 70).trans (hd 39 _ 70 rfl rfl ⟨⟨39, .data⟩, by simp, rfl, rfl⟩)
        have e71 : a.tmps[71]?.getD undef = .int .i64 (k : Int) := (RY.ev_tmp a 71).trans (hd 40 _ 71 rfl rfl ⟨⟨40, .data⟩, by simp, rfl, rfl⟩)
        exact Or.inl ⟨(RY.wanted_at rfl rfl rfl gd).trans rfl, Or.inl ⟨.pointer (some ⟨pa, oa + k * 4, none⟩), X, by simp [execOp, go_sem, e70, e71, hk0, hkn], Below.refl _ _, rfl⟩⟩
      | 42, ho =>
        injection ho with ho; subst ho
        have gd := hd 38 _ 69 rfl rfl ⟨⟨38, .guard⟩, by simp, rfl, rfl⟩
        have e72 : a.tmps[72]?.getD undef = .pointer (some ⟨pa, oa + k * 4, none⟩) := (RY.ev_tmp a 72).trans (hd 41 _ 72 rfl rfl ⟨⟨41, .data⟩, by simp, rfl, rfl⟩)
        exact Or.inl ⟨(RY.wanted_at rfl rfl rfl gd).trans rfl, Or.inl ⟨.pointer (some ⟨pa, oa + k * 4 + 1, none⟩), X, by simp [execOp, go_sem, e72], Below.refl _ _, rfl⟩⟩
      | 43, ho =>
        injection ho with ho; subst ho
        have gd := hd 38 _ 69 rfl rfl ⟨⟨38, .guard⟩, by simp, rfl, rfl⟩
        have e73 : a.tmps[73]?.getD undef = .pointer (some ⟨pa, oa + k * 4 + 1, none⟩) := (RY.ev_tmp a 73).trans (hd 42 _ 73 rfl rfl ⟨⟨42, .data⟩, by simp, rfl, rfl⟩)
        have ypl_ := Nat.lt_of_lt_of_le HPA.out hX.size
        have ycl_ : X.cell? ⟨pa, oa + k * 4 + 1, none⟩ = some (.slice a1 r.args.length c1) := by have q := rA_get (rA_later HGA.out HPA.out hX) 1 _ rfl; simpa using q
        exact Or.inl ⟨(RY.wanted_at rfl rfl rfl gd).trans rfl, Or.inl ⟨.slice a1 r.args.length c1, X, by simp [execOp, go_sem, e73, ycl_], Below.refl _ _, rfl⟩⟩
      | 44, ho =>
        injection ho with ho; subst ho
        have gd := hd 38 _ 69 rfl rfl ⟨⟨38, .guard⟩, by simp, rfl, rfl⟩
        have e74 : a.tmps[74]?.getD undef = .slice a1 r.args.length c1 := (RY.ev_tmp a 74).trans (hd 43 _ 74 rfl rfl ⟨⟨43, .data⟩, by simp, rfl, rfl⟩)
        exact Or.inl ⟨(RY.wanted_at rfl rfl rfl gd).trans rfl, Or.inl ⟨.int .i64 (r.args.length : Int), X, by simp [go_sem, e74], Below.refl _ _, rfl⟩⟩
      | 45, ho =>
        injection ho with ho; subst ho
        have gd := hd 38 _ 69 rfl rfl ⟨⟨38, .guard⟩, by simp, rfl, rfl⟩
        have e5 : a.tmps[5]?.getD undef = .slice (some ⟨pb, ob, none⟩) n cb := (RY.ev_tmp a 5).trans ((hk 5 (by kernel_rfl)).trans rfl)
        exact Or.inl ⟨(RY.wanted_at rfl rfl rfl gd).trans rfl, Or.inl ⟨.slice (some ⟨pb, ob, none⟩) n cb, X, by simp [execOp, go_sem, e5], Below.refl _ _, rfl⟩⟩
      | 46, ho =>
        injection ho with ho; subst ho
        have gd := hd 38 _ 69 rfl rfl ⟨⟨38, .guard⟩, by simp, rfl, rfl⟩
        have e6 : a.tmps[6]?.getD undef = .int .i64 (k : Int) := (RY.ev_tmp a 6).trans ((hk 6 (by kernel_rfl)).trans rfl)
        exact Or.inl ⟨(RY.wanted_at rfl rfl rfl gd).trans rfl, Or.inl ⟨.int .i64 (k : Int), X, by simp [execOp, go_sem, e6], Below.refl _ _, rfl⟩⟩
      | 47, ho =>
        injection ho with ho; subst ho
        have gd := hd 38 _ 69 rfl rfl ⟨⟨38, .guard⟩, by simp, rfl, rfl⟩
        have e76 : a.tmps[76]?.getD undef = .slice (some ⟨pb, ob, none⟩) n cb := (RY.ev_tmp a 76).trans (hd 45 _ 76 rfl rfl ⟨⟨45, .data⟩, by simp, rfl, rfl⟩)
        have e77 : a.tmps[77]?.getD undef = .int .i64 (k : Int) := (RY.ev_tmp a 77).trans (hd 46 _ 77 rfl rfl ⟨⟨46, .data⟩, by simp, rfl, rfl⟩)
        exact Or.inl ⟨(RY.wanted_at rfl rfl rfl gd).trans rfl, Or.inl ⟨.pointer (some ⟨pb, ob + k * 4, none⟩), X, by simp [execOp, go_sem, e76, e77, hk0, hkn], Below.refl _ _, rfl⟩⟩
      | 48, ho =>
        injection ho with ho; subst ho
        have gd := hd 38 _ 69 rfl rfl ⟨⟨38, .guard⟩, by simp, rfl, rfl⟩
        have e78 : a.tmps[78]?.getD undef = .pointer (some ⟨pb, ob + k * 4, none⟩) := (RY.ev_tmp a 78).trans (hd 47 _ 78 rfl rfl ⟨⟨47, .data⟩, by simp, rfl, rfl⟩)
        exact Or.inl ⟨(RY.wanted_at rfl rfl rfl gd).trans rfl, Or.inl ⟨.pointer (some ⟨pb, ob + k * 4 + 1, none⟩), X, by simp [execOp, go_sem, e78], Below.refl _ _, rfl⟩⟩
      | 49, ho =>
        injection ho with ho; subst ho
        have gd := hd 38 _ 69 rfl rfl ⟨⟨38, .guard⟩, by simp, rfl, rfl⟩
        have e79 : a.tmps[79]?.getD undef = .pointer (some ⟨pb, ob + k * 4 + 1, none⟩) := (RY.ev_tmp a 79).trans (hd 48 _ 79 rfl rfl ⟨⟨48, .data⟩, by simp, rfl, rfl⟩)
        have ypl_ := Nat.lt_of_lt_of_le HPB.out hX.size
        have ycl_ : X.cell? ⟨pb, ob + k * 4 + 1, none⟩ = some (.slice b1 r.args.length d1) := by have q := rA_get (rA_later HGB.out HPB.out hX) 1 _ rfl; simpa using q
        exact Or.inl ⟨(RY.wanted_at rfl rfl rfl gd).trans rfl, Or.inl ⟨.slice b1 r.args.length d1, X, by simp [execOp, go_sem, e79, ycl_], Below.refl _ _, rfl⟩⟩
      | 50, ho =>
        injection ho with ho; subst ho
        have gd := hd 38 _ 69 rfl rfl ⟨⟨38, .guard⟩, by simp, rfl, rfl⟩
        have e80 : a.tmps[80]?.getD undef = .slice b1 r.args.length d1 := (RY.ev_tmp a 80).trans (hd 49 _ 80 rfl rfl ⟨⟨49, .data⟩, by simp, rfl, rfl⟩)
        exact Or.inl ⟨(RY.wanted_at rfl rfl rfl gd).trans rfl, Or.inl ⟨.int .i64 (r.args.length : Int), X, by simp [go_sem, e80], Below.refl _ _, rfl⟩⟩
      | 51, ho =>
        injection ho with ho; subst ho
        have gd := hd 38 _ 69 rfl rfl ⟨⟨38, .guard⟩, by simp, rfl, rfl⟩
        have e75 : a.tmps[75]?.getD undef = .int .i64 (r.args.length : Int) := (RY.ev_tmp a 75).trans (hd 44 _ 75 rfl rfl ⟨⟨44, .data⟩, by simp, rfl, rfl⟩)
        have e81 : a.tmps[81]?.getD undef = .int .i64 (r.args.length : Int) := (RY.ev_tmp a 81).trans (hd 50 _ 81 rfl rfl ⟨⟨50, .data⟩, by simp, rfl, rfl⟩)
        exact Or.inl ⟨(RY.wanted_at rfl rfl rfl gd).trans rfl, Or.inl ⟨.bool false, X, by simp [execOp, go_sem, e75, e81], Below.refl _ _, rfl⟩⟩
      | 52, ho =>
        injection ho with ho; subst ho
        have e69 : a.tmps[69]?.getD undef = .bool false := (RY.ev_tmp a 69).trans (hd 38 _ 69 rfl rfl ⟨⟨38, .data⟩, by simp, rfl, rfl⟩)
        have e82 : a.tmps[82]?.getD undef = .bool false := (RY.ev_tmp a 82).trans (hd 51 _ 82 rfl rfl ⟨⟨51, .data⟩, by simp, rfl, rfl⟩)
        exact Or.inl ⟨RY.wanted_no rfl, Or.inl ⟨.bool false, X, by simp [execOp, go_sem, e69, e82], Below.refl _ _, rfl⟩⟩
      | n + 53, ho => simp at ho
    intro X vs hX hvs
    have q83 : vs 83 = _ := hvs 52 _ 83 rfl rfl
    simp only [RY.putAll, Act.put, List.setIfInBounds_toArray, List.set_cons_zero, List.set_cons_succ]
    rw [q83]
    generalize vs 31 = s31
    generalize vs 32 = s32
    generalize vs 33 = s33
    generalize vs 34 = s34
    generalize vs 35 = s35
    generalize vs 36 = s36
    generalize vs 37 = s37
    generalize vs 38 = s38
    generalize vs 39 = s39
    generalize vs 40 = s40
    generalize vs 41 = s41
    generalize vs 42 = s42
    generalize vs 43 = s43
    generalize vs 44 = s44
    generalize vs 45 = s45
    generalize vs 46 = s46
    generalize vs 47 = s47
    generalize vs 48 = s48
    generalize vs 49 = s49
    generalize vs 50 = s50
    generalize vs 51 = s51
    generalize vs 52 = s52
    generalize vs 53 = s53
    generalize vs 54 = s54
    generalize vs 55 = s55
    generalize vs 56 = s56
    generalize vs 57 = s57
    generalize vs 58 = s58
    generalize vs 59 = s59
    generalize vs 60 = s60
    generalize vs 61 = s61
    generalize vs 62 = s62
    generalize vs 63 = s63
    generalize vs 64 = s64
    generalize vs 65 = s65
    generalize vs 66 = s66
    generalize vs 67 = s67
    generalize vs 68 = s68
    generalize vs 69 = s69
    generalize vs 70 = s70
    generalize vs 71 = s71
    generalize vs 72 = s72
    generalize vs 73 = s73
    generalize vs 74 = s74
    generalize vs 75 = s75
    generalize vs 76 = s76
    generalize vs 77 = s77
    generalize vs 78 = s78
    generalize vs 79 = s79
    generalize vs 80 = s80
    generalize vs 81 = s81
    generalize vs 82 = s82
    clear hvs q83
    replace HBR := uh (blw_trans HBR.out hX)
    have HLX := uh hX
    clear HWT
    have HGA1 := uh (rA_later HGA.out HPA.out HLX.out)
    have HPA1 := uh (Nat.lt_of_lt_of_le HPA.out HLX.out.size)
    have HGB1 := uh (rA_later HGB.out HPB.out HLX.out)
    have HPB1 := uh (Nat.lt_of_lt_of_le HPB.out HLX.out.size)
    replace HAI := uh (HAI.out.later HLX.out)
    replace HBI := uh (HBI.out.later HLX.out)
    replace HAD := uh (HAD.out.later HLX.out)
    clear hX HLX HGA HPA HGB HPB
    have ya1 : X.cell? ⟨pa, oa + k * 4 + 1, none⟩ = some (.slice a1 r.args.length c1) := rA_get HGA1.out 1 _ rfl
    have ypa := HPA1.out
    go_wp2
    go_loopw [7] (fun j wq => ∃ q : Nat, q ≤ r.args.length ∧ j = .int .i64 q ∧ Hid (Below X.heap.size X wq)) (fun j _ => r.args.length - (intOf j).toNat)
    case atStart => exact ⟨0, Nat.zero_le _, rfl, Below.refl _ _⟩
    case round =>
      obtain ⟨q, hq, rfl, HBQ⟩ := hrel
      have HGA := uh (rA_later HGA1.out HPA1.out HBQ.out)
      have HPA := uh (Nat.lt_of_lt_of_le HPA1.out HBQ.out.size)
      have HGB := uh (rA_later HGB1.out HPB1.out HBQ.out)
      have HPB := uh (Nat.lt_of_lt_of_le HPB1.out HBQ.out.size)
      have yb1 : wr.cell? ⟨pa, oa + k * 4 + 1, none⟩ = some (.slice a1 r.args.length c1) := rA_get HGA.out 1 _ rfl
      have ypb := HPA.out
      clear ya1 ypa
      by_cases hqn' : q < r.args.length
      · obtain ⟨p1, o1, e1, hp1, hc1⟩ := int_cell (HAI.out.later HBQ.out) hqn'
        obtain ⟨p2, o2, e2, hp2, hc2⟩ := int_cell (HBI.out.later HBQ.out) hqn'
        subst e1; subst e2
        obtain ⟨z, hz⟩ : ∃ z, z = r.args.getD q 0 := ⟨_, rfl⟩
        rw [← hz] at hc1 hc2
        have HC1 := uh hc1
        have HP1 := uh hp1
        have HC2 := uh hc2
        have HP2 := uh hp2
        have hq0 : (0 : Int) ≤ (q : Int) := by omega
        have hqn : (q : Int) < (r.args.length : Int) := by omega
        clear hz hc1 hc2 hp1 hp2
        go_upto_region 16 with fail
        clear yb1 ypb
        refine RY.region_past wr (Below.refl _ _) (VR16 pa oa ca pb ob cb n k p1 o1 p2 o2 q r c1 d1 z) (VR16_mono _ _ _ _ _ _ _ _ _ _ _ _ _ _ _ _ _) (by kernel_rfl) (by kernel_rfl) (by kernel_rfl) (by kernel_rfl) ?_ ?_
        · intro ii o' ho a X hX hk hd
          match ii, ho with
          | 0, ho =>
            injection ho with ho; subst ho
            have e4 : a.tmps[4]?.getD undef = .slice (some ⟨pa, oa, none⟩) n ca := (RY.ev_tmp a 4).trans ((hk 4 (by kernel_rfl)).trans rfl)
            exact Or.inl ⟨.slice (some ⟨pa, oa, none⟩) n ca, X, by simp [execOp, go_sem, e4], Below.refl _ _, rfl⟩
          | 1, ho =>
            injection ho with ho; subst ho
            have e6 : a.tmps[6]?.getD undef = .int .i64 (k : Int) := (RY.ev_tmp a 6).trans ((hk 6 (by kernel_rfl)).trans rfl)
            exact Or.inl ⟨.int .i64 (k : Int), X, by simp [execOp, go_sem, e6], Below.refl _ _, rfl⟩
          | 2, ho =>
            injection ho with ho; subst ho
            have e94 : a.tmps[94]?.getD undef = .slice (some ⟨pa, oa, none⟩) n ca := (RY.ev_tmp a 94).trans (hd 0 _ 94 rfl rfl ⟨⟨0, .data⟩, by simp, rfl, rfl⟩)
            have e95 : a.tmps[95]?.getD undef = .int .i64 (k : Int) := (RY.ev_tmp a 95).trans (hd 1 _ 95 rfl rfl ⟨⟨1, .data⟩, by simp, rfl, rfl⟩)
            exact Or.inl ⟨.pointer (some ⟨pa, oa + k * 4, none⟩), X, by simp [execOp, go_sem, e94, e95, hk0, hkn], Below.refl _ _, rfl⟩
          | 3, ho =>
            injection ho with ho; subst ho
            have e96 : a.tmps[96]?.getD undef = .pointer (some ⟨pa, oa + k * 4, none⟩) := (RY.ev_tmp a 96).trans (hd 2 _ 96 rfl rfl ⟨⟨2, .data⟩, by simp, rfl, rfl⟩)
            exact Or.inl ⟨.pointer (some ⟨pa, oa + k * 4 + 1, none⟩), X, by simp [execOp, go_sem, e96], Below.refl _ _, rfl⟩
          | 4, ho =>
            injection ho with ho; subst ho
            have e97 : a.tmps[97]?.getD undef = .pointer (some ⟨pa, oa + k * 4 + 1, none⟩) := (RY.ev_tmp a 97).trans (hd 3 _ 97 rfl rfl ⟨⟨3, .data⟩, by simp, rfl, rfl⟩)
            have ypl_ := Nat.lt_of_lt_of_le HPA.out hX.size
            have ycl_ : X.cell? ⟨pa, oa + k * 4 + 1, none⟩ = some (.slice (some ⟨p1, o1, none⟩) r.args.length c1) := by have q := rA_get (rA_later HGA.out HPA.out hX) 1 _ rfl; simpa using q
            exact Or.inl ⟨.slice (some ⟨p1, o1, none⟩) r.args.length c1, X, by simp [execOp, go_sem, e97, ycl_], Below.refl _ _, rfl⟩
          | 5, ho =>
            injection ho with ho; subst ho
            have e7 : a.tmps[7]?.getD undef = .int .i64 (q : Int) := (RY.ev_tmp a 7).trans ((hk 7 (by kernel_rfl)).trans rfl)
            exact Or.inl ⟨.int .i64 (q : Int), X, by simp [execOp, go_sem, e7], Below.refl _ _, rfl⟩
          | 6, ho =>
            injection ho with ho; subst ho
            have e98 : a.tmps[98]?.getD undef = .slice (some ⟨p1, o1, none⟩) r.args.length c1 := (RY.ev_tmp a 98).trans (hd 4 _ 98 rfl rfl ⟨⟨4, .data⟩, by simp, rfl, rfl⟩)
            have e99 : a.tmps[99]?.getD undef = .int .i64 (q : Int) := (RY.ev_tmp a 99).trans (hd 5 _ 99 rfl rfl ⟨⟨5, .data⟩, by simp, rfl, rfl⟩)
            exact Or.inl ⟨.pointer (some ⟨p1, o1 + q, none⟩), X, by simp [execOp, go_sem, e98, e99, hq0, hqn], Below.refl _ _, rfl⟩
          | 7, ho =>
            injection ho with ho; subst ho
            have e100 : a.tmps[100]?.getD undef = .pointer (some ⟨p1, o1 + q, none⟩) := (RY.ev_tmp a 100).trans (hd 6 _ 100 rfl rfl ⟨⟨6, .data⟩, by simp, rfl, rfl⟩)
            have ypl_ := Nat.lt_of_lt_of_le HP1.out hX.size
            have ycl_ : X.cell? ⟨p1, o1 + q, none⟩ = some (.int .i64 z) := by have q := rA_get (rA_later HC1.out HP1.out hX) 0 _ rfl; simpa using q
            exact Or.inl ⟨.int .i64 z, X, by simp [execOp, go_sem, e100, ycl_], Below.refl _ _, rfl⟩
          | 8, ho =>
            injection ho with ho; subst ho
            have e5 : a.tmps[5]?.getD undef = .slice (some ⟨pb, ob, none⟩) n cb := (RY.ev_tmp a 5).trans ((hk 5 (by kernel_rfl)).trans rfl)
            exact Or.inl ⟨.slice (some ⟨pb, ob, none⟩) n cb, X, by simp [execOp, go_sem, e5], Below.refl _ _, rfl⟩
          | 9, ho =>
            injection ho with ho; subst ho
            have e6 : a.tmps[6]?.getD undef = .int .i64 (k : Int) := (RY.ev_tmp a 6).trans ((hk 6 (by kernel_rfl)).trans rfl)
            exact Or.inl ⟨.int .i64 (k : Int), X, by simp [execOp, go_sem, e6], Below.refl _ _, rfl⟩
          | 10, ho =>
            injection ho with ho; subst ho
            have e102 : a.tmps[102]?.getD undef = .slice (some ⟨pb, ob, none⟩) n cb := (RY.ev_tmp a 102).trans (hd 8 _ 102 rfl rfl ⟨⟨8, .data⟩, by simp, rfl, rfl⟩)
            have e103 : a.tmps[103]?.getD undef = .int .i64 (k : Int) := (RY.ev_tmp a 103).trans (hd 9 _ 103 rfl rfl ⟨⟨9, .data⟩, by simp, rfl, rfl⟩)
            exact Or.inl ⟨.pointer (some ⟨pb, ob + k * 4, none⟩), X, by simp [execOp, go_sem, e102, e103, hk0, hkn], Below.refl _ _, rfl⟩
          | 11, ho =>
            injection ho with ho; subst ho
            have e104 : a.tmps[104]?.getD undef = .pointer (some ⟨pb, ob + k * 4, none⟩) := (RY.ev_tmp a 104).trans (hd 10 _ 104 rfl rfl ⟨⟨10, .data⟩, by simp, rfl, rfl⟩)
            exact Or.inl ⟨.pointer (some ⟨pb, ob + k * 4 + 1, none⟩), X, by simp [execOp, go_sem, e104], Below.refl _ _, rfl⟩
          | 12, ho =>
            injection ho with ho; subst ho
            have e105 : a.tmps[105]?.getD undef = .pointer (some ⟨pb, ob + k * 4 + 1, none⟩) := (RY.ev_tmp a 105).trans (hd 11 _ 105 rfl rfl ⟨⟨11, .data⟩, by simp, rfl, rfl⟩)
            have ypl_ := Nat.lt_of_lt_of_le HPB.out hX.size
            have ycl_ : X.cell? ⟨pb, ob + k * 4 + 1, none⟩ = some (.slice (some ⟨p2, o2, none⟩) r.args.length d1) := by have q := rA_get (rA_later HGB.out HPB.out hX) 1 _ rfl; simpa using q
            exact Or.inl ⟨.slice (some ⟨p2, o2, none⟩) r.args.length d1, X, by simp [execOp, go_sem, e105, ycl_], Below.refl _ _, rfl⟩
          | 13, ho =>
            injection ho with ho; subst ho
            have e7 : a.tmps[7]?.getD undef = .int .i64 (q : Int) := (RY.ev_tmp a 7).trans ((hk 7 (by kernel_rfl)).trans rfl)
            exact Or.inl ⟨.int .i64 (q : Int), X, by simp [execOp, go_sem, e7], Below.refl _ _, rfl⟩
          | 14, ho =>
            injection ho with ho; subst ho
            have e106 : a.tmps[106]?.getD undef = .slice (some ⟨p2, o2, none⟩) r.args.length d1 := (RY.ev_tmp a 106).trans (hd 12 _ 106 rfl rfl ⟨⟨12, .data⟩, by simp, rfl, rfl⟩)
            have e107 : a.tmps[107]?.getD undef = .int .i64 (q : Int) := (RY.ev_tmp a 107).trans (hd 13 _ 107 rfl rfl ⟨⟨13, .data⟩, by simp, rfl, rfl⟩)
            exact Or.inl ⟨.pointer (some ⟨p2, o2 + q, none⟩), X, by simp [execOp, go_sem, e106, e107, hq0, hqn], Below.refl _ _, rfl⟩
          | 15, ho =>
            injection ho with ho; subst ho
            have e108 : a.tmps[108]?.getD undef = .pointer (some ⟨p2, o2 + q, none⟩) := (RY.ev_tmp a 108).trans (hd 14 _ 108 rfl rfl ⟨⟨14, .data⟩, by simp, rfl, rfl⟩)
            have ypl_ := Nat.lt_of_lt_of_le HP2.out hX.size
            have ycl_ : X.cell? ⟨p2, o2 + q, none⟩ = some (.int .i64 z) := by have q := rA_get (rA_later HC2.out HP2.out hX) 0 _ rfl; simpa using q
            exact Or.inl ⟨.int .i64 z, X, by simp [execOp, go_sem, e108, ycl_], Below.refl _ _, rfl⟩
          | 16, ho =>
            injection ho with ho; subst ho
            have e101 : a.tmps[101]?.getD undef = .int .i64 z := (RY.ev_tmp a 101).trans (hd 7 _ 101 rfl rfl ⟨⟨7, .data⟩, by simp, rfl, rfl⟩)
            have e109 : a.tmps[109]?.getD undef = .int .i64 z := (RY.ev_tmp a 109).trans (hd 15 _ 109 rfl rfl ⟨⟨15, .data⟩, by simp, rfl, rfl⟩)
            exact Or.inl ⟨.bool false, X, by simp [execOp, go_sem, e101, e109], Below.refl _ _, rfl⟩
          | n + 17, ho => simp at ho
        intro X vs hX hvs
        have q110 : vs 110 = _ := hvs 16 _ 110 rfl rfl
        simp only [RY.putAll, Act.put, List.setIfInBounds_toArray, List.set_cons_zero, List.set_cons_succ]
        rw [q110]
        generalize vs 94 = s94
        generalize vs 95 = s95
        generalize vs 96 = s96
        generalize vs 97 = s97
        generalize vs 98 = s98
        generalize vs 99 = s99
        generalize vs 100 = s100
        generalize vs 101 = s101
        generalize vs 102 = s102
        generalize vs 103 = s103
        generalize vs 104 = s104
        generalize vs 105 = s105
        generalize vs 106 = s106
        generalize vs 107 = s107
        generalize vs 108 = s108
        generalize vs 109 = s109
        clear hvs q110
        replace HBQ := uh (blw_trans HBQ.out hX)
        clear hX
        go_wp2
        go_roundw
        case rel => exact ⟨q + 1, by omega, by go_num, HBQ⟩
        case measure => simp [intOf]; omega
      obtain rfl : q = r.args.length := by omega
      have HBX := uh (blw_trans HBR.out HBQ.out)
      cases hmany : r.many
      rotate_left
      · rw [hmany] at HGA
        go_upto_region 18 with fail
        clear hmany yb1 ypb
        refine RY.region_pastG wr (Below.refl _ _) (VR18t pa oa ca n k) (VR18t_mono _ _ _ _ _) (by kernel_rfl) (by kernel_rfl) (by kernel_rfl) (by kernel_rfl) ?_ ?_
        · intro ii o' ho a X hX hk hd
          match ii, ho with
          | 0, ho =>
            injection ho with ho; subst ho
            have e4 : a.tmps[4]?.getD undef = .slice (some ⟨pa, oa, none⟩) n ca := (RY.ev_tmp a 4).trans ((hk 4 (by kernel_rfl)).trans rfl)
            exact Or.inl ⟨RY.wanted_no rfl, Or.inl ⟨.slice (some ⟨pa, oa, none⟩) n ca, X, by simp [execOp, go_sem, e4], Below.refl _ _, rfl⟩⟩
          | 1, ho =>
            injection ho with ho; subst ho
            have e6 : a.tmps[6]?.getD undef = .int .i64 (k : Int) := (RY.ev_tmp a 6).trans ((hk 6 (by kernel_rfl)).trans rfl)
            exact Or.inl ⟨RY.wanted_no rfl, Or.inl ⟨.int .i64 (k : Int), X, by simp [execOp, go_sem, e6], Below.refl _ _, rfl⟩⟩
          | 2, ho =>
            injection ho with ho; subst ho
            have e111 : a.tmps[111]?.getD undef = .slice (some ⟨pa, oa, none⟩) n ca := (RY.ev_tmp a 111).trans (hd 0 _ 111 rfl rfl ⟨⟨0, .data⟩, by simp, rfl, rfl⟩)
            have e112 : a.tmps[112]?.getD undef = .int .i64 (k : Int) := (RY.ev_tmp a 112).trans (hd 1 _ 112 rfl rfl ⟨⟨1, .data⟩, by simp, rfl, rfl⟩)
            exact Or.inl ⟨RY.wanted_no rfl, Or.inl ⟨.pointer (some ⟨pa, oa + k * 4, none⟩), X, by simp [execOp, go_sem, e111, e112, hk0, hkn], Below.refl _ _, rfl⟩⟩
          | 3, ho =>
            injection ho with ho; subst ho
            have e113 : a.tmps[113]?.getD undef = .pointer (some ⟨pa, oa + k * 4, none⟩) := (RY.ev_tmp a 113).trans (hd 2 _ 113 rfl rfl ⟨⟨2, .data⟩, by simp, rfl, rfl⟩)
            exact Or.inl ⟨RY.wanted_no rfl, Or.inl ⟨.pointer (some ⟨pa, oa + k * 4 + 2, none⟩), X, by simp [execOp, go_sem, e113], Below.refl _ _, rfl⟩⟩
          | 4, ho =>
            injection ho with ho; subst ho
            have e114 : a.tmps[114]?.getD undef = .pointer (some ⟨pa, oa + k * 4 + 2, none⟩) := (RY.ev_tmp a 114).trans (hd 3 _ 114 rfl rfl ⟨⟨3, .data⟩, by simp, rfl, rfl⟩)
            have ypl_ := Nat.lt_of_lt_of_le HPA.out hX.size
            have ycl_ : X.cell? ⟨pa, oa + k * 4 + 2, none⟩ = some (.bool true) := by have q := rA_get (rA_later HGA.out HPA.out hX) 2 _ rfl; simpa using q
            exact Or.inl ⟨RY.wanted_no rfl, Or.inl ⟨.bool true, X, by simp [execOp, go_sem, e114, ycl_], Below.refl _ _, rfl⟩⟩
          | 5, ho =>
            injection ho with ho; subst ho
            have e115 : a.tmps[115]?.getD undef = .bool true := (RY.ev_tmp a 115).trans (hd 4 _ 115 rfl rfl ⟨⟨4, .data⟩, by simp, rfl, rfl⟩)
            exact Or.inl ⟨RY.wanted_no rfl, Or.inl ⟨.bool false, X, by simp [execOp, go_sem, e115], Below.refl _ _, rfl⟩⟩
          | 6, ho =>
            injection ho with ho; subst ho
            have e116 : a.tmps[116]?.getD undef = .bool false := (RY.ev_tmp a 116).trans (hd 5 _ 116 rfl rfl ⟨⟨5, .data⟩, by simp, rfl, rfl⟩)
            exact Or.inl ⟨RY.wanted_no rfl, Or.inl ⟨.bool false, X, by simp [execOp, go_sem, e116], Below.refl _ _, rfl⟩⟩
          | 7, ho =>
            injection ho with ho; subst ho
            have gd := hd 6 _ 117 rfl rfl ⟨⟨6, .guard⟩, by simp, rfl, rfl⟩
            exact Or.inr ⟨(RY.wanted_at rfl rfl rfl gd).trans rfl, rfl⟩
          | 8, ho =>
            injection ho with ho; subst ho
            have gd := hd 6 _ 117 rfl rfl ⟨⟨6, .guard⟩, by simp, rfl, rfl⟩
            exact Or.inr ⟨(RY.wanted_at rfl rfl rfl gd).trans rfl, rfl⟩
          | 9, ho =>
            injection ho with ho; subst ho
            have gd := hd 6 _ 117 rfl rfl ⟨⟨6, .guard⟩, by simp, rfl, rfl⟩
            exact Or.inr ⟨(RY.wanted_at rfl rfl rfl gd).trans rfl, rfl⟩
          | 10, ho =>
            injection ho with ho; subst ho
            have gd := hd 6 _ 117 rfl rfl ⟨⟨6, .guard⟩, by simp, rfl, rfl⟩
            exact Or.inr ⟨(RY.wanted_at rfl rfl rfl gd).trans rfl, rfl⟩
          | 11, ho =>
            injection ho with ho; subst ho
            have gd := hd 6 _ 117 rfl rfl ⟨⟨6, .guard⟩, by simp, rfl, rfl⟩
            exact Or.inr ⟨(RY.wanted_at rfl rfl rfl gd).trans rfl, rfl⟩
          | 12, ho =>
            injection ho with ho; subst ho
            have gd := hd 6 _ 117 rfl rfl ⟨⟨6, .guard⟩, by simp, rfl, rfl⟩
            exact Or.inr ⟨(RY.wanted_at rfl rfl rfl gd).trans rfl, rfl⟩
          | 13, ho =>
            injection ho with ho; subst ho
            have gd := hd 6 _ 117 rfl rfl ⟨⟨6, .guard⟩, by simp, rfl, rfl⟩
            exact Or.inr ⟨(RY.wanted_at rfl rfl rfl gd).trans rfl, rfl⟩
          | 14, ho =>
            injection ho with ho; subst ho
            have gd := hd 6 _ 117 rfl rfl ⟨⟨6, .guard⟩, by simp, rfl, rfl⟩
            exact Or.inr ⟨(RY.wanted_at rfl rfl rfl gd).trans rfl, rfl⟩
          | 15, ho =>
            injection ho with ho; subst ho
            have gd := hd 6 _ 117 rfl rfl ⟨⟨6, .guard⟩, by simp, rfl, rfl⟩
            exact Or.inr ⟨(RY.wanted_at rfl rfl rfl gd).trans rfl, rfl⟩
          | 16, ho =>
            injection ho with ho; subst ho
            have gd := hd 6 _ 117 rfl rfl ⟨⟨6, .guard⟩, by simp, rfl, rfl⟩
            exact Or.inr ⟨(RY.wanted_at rfl rfl rfl gd).trans rfl, rfl⟩
          | 17, ho =>
            injection ho with ho; subst ho
            have gd := hd 6 _ 117 rfl rfl ⟨⟨6, .guard⟩, by simp, rfl, rfl⟩
            exact Or.inr ⟨(RY.wanted_at rfl rfl rfl gd).trans rfl, rfl⟩
          | 18, ho =>
            injection ho with ho; subst ho
            have gd := hd 6 _ 117 rfl rfl ⟨⟨6, .guard⟩, by simp, rfl, rfl⟩
            exact Or.inr ⟨(RY.wanted_at rfl rfl rfl gd).trans rfl, rfl⟩
          | 19, ho =>
            injection ho with ho; subst ho
            have gd := hd 6 _ 117 rfl rfl ⟨⟨6, .guard⟩, by simp, rfl, rfl⟩
            exact Or.inr ⟨(RY.wanted_at rfl rfl rfl gd).trans rfl, rfl⟩
          | 20, ho =>
            injection ho with ho; subst ho
            have e117 : a.tmps[117]?.getD undef = .bool false := (RY.ev_tmp a 117).trans (hd 6 _ 117 rfl rfl ⟨⟨6, .data⟩, by simp, rfl, rfl⟩)
            have e130 : a.tmps[130]?.getD undef = undef := (RY.ev_tmp a 130).trans (hd 19 _ 130 rfl rfl ⟨⟨19, .data⟩, by simp, rfl, rfl⟩)
            exact Or.inl ⟨RY.wanted_no rfl, Or.inl ⟨.bool false, X, by simp [execOp, go_sem, e117, e130], Below.refl _ _, rfl⟩⟩
          | n + 21, ho => simp at ho
        intro X vs hX hvs
        have q131 : vs 131 = _ := hvs 20 _ 131 rfl rfl
        simp only [RY.putAll, Act.put, List.setIfInBounds_toArray, List.set_cons_zero, List.set_cons_succ]
        rw [q131]
        generalize vs 111 = s111
        generalize vs 112 = s112
        generalize vs 113 = s113
        generalize vs 114 = s114
        generalize vs 115 = s115
        generalize vs 116 = s116
        generalize vs 117 = s117
        generalize vs 118 = s118
        generalize vs 119 = s119
        generalize vs 120 = s120
        generalize vs 121 = s121
        generalize vs 122 = s122
        generalize vs 123 = s123
        generalize vs 124 = s124
        generalize vs 125 = s125
        generalize vs 126 = s126
        generalize vs 127 = s127
        generalize vs 128 = s128
        generalize vs 129 = s129
        generalize vs 130 = s130
        clear hvs q131
        replace HBX := uh (blw_trans HBX.out hX)
        clear hX
        go_wp2
        go_roundw
        case rel => exact ⟨k + 1, by omega, by go_num, HBX⟩
        case measure => simp [intOf]; omega
      · rw [hmany] at HGA
        have hft := HFR.out hmany
        have HFT : Hid (∀ X, Below wr.heap.size wr X → Calls Try.prog 8 #[.string kind, .string r.key, .slice a3 r.dflt.length c3] X fun e W' => e = .returned (.bool true) ∧ Below X.heap.size X W') := fun X hX => by
          have := sheetFitsV kind r.key r.dflt (.slice a3 r.dflt.length c3) X ((HAD.out.later HBQ.out).later hX) HDS.out
          rw [hft] at this
          exact this
        clear hft
        go_upto_region 18 with fail
        clear hmany yb1 ypb
        refine RY.region_pastG wr (Below.refl _ _) (VR18f kind pa oa ca n k r a3 c3) (VR18f_mono _ _ _ _ _ _ _ _ _) (by kernel_rfl) (by kernel_rfl) (by kernel_rfl) (by kernel_rfl) ?_ ?_
        · intro ii o' ho a X hX hk hd
          match ii, ho with
          | 0, ho =>
            injection ho with ho; subst ho
            have e4 : a.tmps[4]?.getD undef = .slice (some ⟨pa, oa, none⟩) n ca := (RY.ev_tmp a 4).trans ((hk 4 (by kernel_rfl)).trans rfl)
            exact Or.inl ⟨RY.wanted_no rfl, Or.inl ⟨.slice (some ⟨pa, oa, none⟩) n ca, X, by simp [execOp, go_sem, e4], Below.refl _ _, rfl⟩⟩
          | 1, ho =>
            injection ho with ho; subst ho
            have e6 : a.tmps[6]?.getD undef = .int .i64 (k : Int) := (RY.ev_tmp a 6).trans ((hk 6 (by kernel_rfl)).trans rfl)
            exact Or.inl ⟨RY.wanted_no rfl, Or.inl ⟨.int .i64 (k : Int), X, by simp [execOp, go_sem, e6], Below.refl _ _, rfl⟩⟩
          | 2, ho =>
            injection ho with ho; subst ho
            have e111 : a.tmps[111]?.getD undef = .slice (some ⟨pa, oa, none⟩) n ca := (RY.ev_tmp a 111).trans (hd 0 _ 111 rfl rfl ⟨⟨0, .data⟩, by simp, rfl, rfl⟩)
            have e112 : a.tmps[112]?.getD undef = .int .i64 (k : Int) := (RY.ev_tmp a 112).trans (hd 1 _ 112 rfl rfl ⟨⟨1, .data⟩, by simp, rfl, rfl⟩)
            exact Or.inl ⟨RY.wanted_no rfl, Or.inl ⟨.pointer (some ⟨pa, oa + k * 4, none⟩), X, by simp [execOp, go_sem, e111, e112, hk0, hkn], Below.refl _ _, rfl⟩⟩
          | 3, ho =>
            injection ho with ho; subst ho
            have e113 : a.tmps[113]?.getD undef = .pointer (some ⟨pa, oa + k * 4, none⟩) := (RY.ev_tmp a 113).trans (hd 2 _ 113 rfl rfl ⟨⟨2, .data⟩, by simp, rfl, rfl⟩)
            exact Or.inl ⟨RY.wanted_no rfl, Or.inl ⟨.pointer (some ⟨pa, oa + k * 4 + 2, none⟩), X, by simp [execOp, go_sem, e113], Below.refl _ _, rfl⟩⟩
          | 4, ho =>
            injection ho with ho; subst ho
            have e114 : a.tmps[114]?.getD undef = .pointer (some ⟨pa, oa + k * 4 + 2, none⟩) := (RY.ev_tmp a 114).trans (hd 3 _ 114 rfl rfl ⟨⟨3, .data⟩, by simp, rfl, rfl⟩)
            have ypl_ := Nat.lt_of_lt_of_le HPA.out hX.size
            have ycl_ : X.cell? ⟨pa, oa + k * 4 + 2, none⟩ = some (.bool false) := by have q := rA_get (rA_later HGA.out HPA.out hX) 2 _ rfl; simpa using q
            exact Or.inl ⟨RY.wanted_no rfl, Or.inl ⟨.bool false, X, by simp [execOp, go_sem, e114, ycl_], Below.refl _ _, rfl⟩⟩
          | 5, ho =>
            injection ho with ho; subst ho
            have e115 : a.tmps[115]?.getD undef = .bool false := (RY.ev_tmp a 115).trans (hd 4 _ 115 rfl rfl ⟨⟨4, .data⟩, by simp, rfl, rfl⟩)
            exact Or.inl ⟨RY.wanted_no rfl, Or.inl ⟨.bool true, X, by simp [execOp, go_sem, e115], Below.refl _ _, rfl⟩⟩
          | 6, ho =>
            injection ho with ho; subst ho
            have e116 : a.tmps[116]?.getD undef = .bool true := (RY.ev_tmp a 116).trans (hd 5 _ 116 rfl rfl ⟨⟨5, .data⟩, by simp, rfl, rfl⟩)
            exact Or.inl ⟨RY.wanted_no rfl, Or.inl ⟨.bool true, X, by simp [execOp, go_sem, e116], Below.refl _ _, rfl⟩⟩
          | 7, ho =>
            injection ho with ho; subst ho
            have gd := hd 6 _ 117 rfl rfl ⟨⟨6, .guard⟩, by simp, rfl, rfl⟩
            have e3 : a.tmps[3]?.getD undef = .string kind := (RY.ev_tmp a 3).trans ((hk 3 (by kernel_rfl)).trans rfl)
            exact Or.inl ⟨(RY.wanted_at rfl rfl rfl gd).trans rfl, Or.inl ⟨.string kind, X, by simp [execOp, go_sem, e3], Below.refl _ _, rfl⟩⟩
          | 8, ho =>
            injection ho with ho; subst ho
            have gd := hd 6 _ 117 rfl rfl ⟨⟨6, .guard⟩, by simp, rfl, rfl⟩
            have e4 : a.tmps[4]?.getD undef = .slice (some ⟨pa, oa, none⟩) n ca := (RY.ev_tmp a 4).trans ((hk 4 (by kernel_rfl)).trans rfl)
            exact Or.inl ⟨(RY.wanted_at rfl rfl rfl gd).trans rfl, Or.inl ⟨.slice (some ⟨pa, oa, none⟩) n ca, X, by simp [execOp, go_sem, e4], Below.refl _ _, rfl⟩⟩
          | 9, ho =>
            injection ho with ho; subst ho
            have gd := hd 6 _ 117 rfl rfl ⟨⟨6, .guard⟩, by simp, rfl, rfl⟩
            have e6 : a.tmps[6]?.getD undef = .int .i64 (k : Int) := (RY.ev_tmp a 6).trans ((hk 6 (by kernel_rfl)).trans rfl)
            exact Or.inl ⟨(RY.wanted_at rfl rfl rfl gd).trans rfl, Or.inl ⟨.int .i64 (k : Int), X, by simp [execOp, go_sem, e6], Below.refl _ _, rfl⟩⟩
          | 10, ho =>
            injection ho with ho; subst ho
            have gd := hd 6 _ 117 rfl rfl ⟨⟨6, .guard⟩, by simp, rfl, rfl⟩
            have e119 : a.tmps[119]?.getD undef = .slice (some ⟨pa, oa, none⟩) n ca := (RY.ev_tmp a 119).trans (hd 8 _ 119 rfl rfl ⟨⟨8, .data⟩, by simp, rfl, rfl⟩)
            have e120 : a.tmps[120]?.getD undef = .int .i64 (k : Int) := (RY.ev_tmp a 120).trans (hd 9 _ 120 rfl rfl ⟨⟨9, .data⟩, by simp, rfl, rfl⟩)
            exact Or.inl ⟨(RY.wanted_at rfl rfl rfl gd).trans rfl, Or.inl ⟨.pointer (some ⟨pa, oa + k * 4, none⟩), X, by simp [execOp, go_sem, e119, e120, hk0, hkn], Below.refl _ _, rfl⟩⟩
          | 11, ho =>
            injection ho with ho; subst ho
            have gd := hd 6 _ 117 rfl rfl ⟨⟨6, .guard⟩, by simp, rfl, rfl⟩
            have e121 : a.tmps[121]?.getD undef = .pointer (some ⟨pa, oa + k * 4, none⟩) := (RY.ev_tmp a 121).trans (hd 10 _ 121 rfl rfl ⟨⟨10, .data⟩, by simp, rfl, rfl⟩)
            exact Or.inl ⟨(RY.wanted_at rfl rfl rfl gd).trans rfl, Or.inl ⟨.pointer (some ⟨pa, oa + k * 4, none⟩), X, by simp [execOp, go_sem, e121], Below.refl _ _, rfl⟩⟩
          | 12, ho =>
            injection ho with ho; subst ho
            have gd := hd 6 _ 117 rfl rfl ⟨⟨6, .guard⟩, by simp, rfl, rfl⟩
            have e122 : a.tmps[122]?.getD undef = .pointer (some ⟨pa, oa + k * 4, none⟩) := (RY.ev_tmp a 122).trans (hd 11 _ 122 rfl rfl ⟨⟨11, .data⟩, by simp, rfl, rfl⟩)
            have ypl_ := Nat.lt_of_lt_of_le HPA.out hX.size
            have ycl_ : X.cell? ⟨pa, oa + k * 4, none⟩ = some (.string r.key) := by have q := rA_get (rA_later HGA.out HPA.out hX) 0 _ rfl; simpa using q
            exact Or.inl ⟨(RY.wanted_at rfl rfl rfl gd).trans rfl, Or.inl ⟨.string r.key, X, by simp [execOp, go_sem, e122, ycl_], Below.refl _ _, rfl⟩⟩
          | 13, ho =>
            injection ho with ho; subst ho
            have gd := hd 6 _ 117 rfl rfl ⟨⟨6, .guard⟩, by simp, rfl, rfl⟩
            have e4 : a.tmps[4]?.getD undef = .slice (some ⟨pa, oa, none⟩) n ca := (RY.ev_tmp a 4).trans ((hk 4 (by kernel_rfl)).trans rfl)
            exact Or.inl ⟨(RY.wanted_at rfl rfl rfl gd).trans rfl, Or.inl ⟨.slice (some ⟨pa, oa, none⟩) n ca, X, by simp [execOp, go_sem, e4], Below.refl _ _, rfl⟩⟩
          | 14, ho =>
            injection ho with ho; subst ho
            have gd := hd 6 _ 117 rfl rfl ⟨⟨6, .guard⟩, by simp, rfl, rfl⟩
            have e6 : a.tmps[6]?.getD undef = .int .i64 (k : Int) := (RY.ev_tmp a 6).trans ((hk 6 (by kernel_rfl)).trans rfl)
            exact Or.inl ⟨(RY.wanted_at rfl rfl rfl gd).trans rfl, Or.inl ⟨.int .i64 (k : Int), X, by simp [execOp, go_sem, e6], Below.refl _ _, rfl⟩⟩
          | 15, ho =>
            injection ho with ho; subst ho
            have gd := hd 6 _ 117 rfl rfl ⟨⟨6, .guard⟩, by simp, rfl, rfl⟩
            have e124 : a.tmps[124]?.getD undef = .slice (some ⟨pa, oa, none⟩) n ca := (RY.ev_tmp a 124).trans (hd 13 _ 124 rfl rfl ⟨⟨13, .data⟩, by simp, rfl, rfl⟩)
            have e125 : a.tmps[125]?.getD undef = .int .i64 (k : Int) := (RY.ev_tmp a 125).trans (hd 14 _ 125 rfl rfl ⟨⟨14, .data⟩, by simp, rfl, rfl⟩)
            exact Or.inl ⟨(RY.wanted_at rfl rfl rfl gd).trans rfl, Or.inl ⟨.pointer (some ⟨pa, oa + k * 4, none⟩), X, by simp [execOp, go_sem, e124, e125, hk0, hkn], Below.refl _ _, rfl⟩⟩
          | 16, ho =>
            injection ho with ho; subst ho
            have gd := hd 6 _ 117 rfl rfl ⟨⟨6, .guard⟩, by simp, rfl, rfl⟩
            have e126 : a.tmps[126]?.getD undef = .pointer (some ⟨pa, oa + k * 4, none⟩) := (RY.ev_tmp a 126).trans (hd 15 _ 126 rfl rfl ⟨⟨15, .data⟩, by simp, rfl, rfl⟩)
            exact Or.inl ⟨(RY.wanted_at rfl rfl rfl gd).trans rfl, Or.inl ⟨.pointer (some ⟨pa, oa + k * 4 + 3, none⟩), X, by simp [execOp, go_sem, e126], Below.refl _ _, rfl⟩⟩
          | 17, ho =>
            injection ho with ho; subst ho
            have gd := hd 6 _ 117 rfl rfl ⟨⟨6, .guard⟩, by simp, rfl, rfl⟩
            have e127 : a.tmps[127]?.getD undef = .pointer (some ⟨pa, oa + k * 4 + 3, none⟩) := (RY.ev_tmp a 127).trans (hd 16 _ 127 rfl rfl ⟨⟨16, .data⟩, by simp, rfl, rfl⟩)
            have ypl_ := Nat.lt_of_lt_of_le HPA.out hX.size
            have ycl_ : X.cell? ⟨pa, oa + k * 4 + 3, none⟩ = some (.slice a3 r.dflt.length c3) := by have q := rA_get (rA_later HGA.out HPA.out hX) 3 _ rfl; simpa using q
            exact Or.inl ⟨(RY.wanted_at rfl rfl rfl gd).trans rfl, Or.inl ⟨.slice a3 r.dflt.length c3, X, by simp [execOp, go_sem, e127, ycl_], Below.refl _ _, rfl⟩⟩
          | 18, ho =>
            injection ho with ho; subst ho
            have gd := hd 6 _ 117 rfl rfl ⟨⟨6, .guard⟩, by simp, rfl, rfl⟩
            have e118 : a.tmps[118]?.getD undef = .string kind := (RY.ev_tmp a 118).trans (hd 7 _ 118 rfl rfl ⟨⟨7, .data⟩, by simp, rfl, rfl⟩)
            have e123 : a.tmps[123]?.getD undef = .string r.key := (RY.ev_tmp a 123).trans (hd 12 _ 123 rfl rfl ⟨⟨12, .data⟩, by simp, rfl, rfl⟩)
            have e128 : a.tmps[128]?.getD undef = .slice a3 r.dflt.length c3 := (RY.ev_tmp a 128).trans (hd 17 _ 128 rfl rfl ⟨⟨17, .data⟩, by simp, rfl, rfl⟩)
            refine Or.inl ⟨(RY.wanted_at rfl rfl rfl gd).trans rfl, Or.inr ⟨8, #[.string kind, .string r.key, .slice a3 r.dflt.length c3], by simp [go_sem, e118, e123, e128], (HFT.out X hX).mono ?_⟩⟩
            rintro e W' ⟨rfl, hb⟩
            exact ⟨_, rfl, hb, rfl⟩
          | 19, ho =>
            injection ho with ho; subst ho
            have gd := hd 6 _ 117 rfl rfl ⟨⟨6, .guard⟩, by simp, rfl, rfl⟩
            have e129 : a.tmps[129]?.getD undef = .bool true := (RY.ev_tmp a 129).trans (hd 18 _ 129 rfl rfl ⟨⟨18, .data⟩, by simp, rfl, rfl⟩)
            exact Or.inl ⟨(RY.wanted_at rfl rfl rfl gd).trans rfl, Or.inl ⟨.bool false, X, by simp [execOp, go_sem, e129], Below.refl _ _, rfl⟩⟩
          | 20, ho =>
            injection ho with ho; subst ho
            have e117 : a.tmps[117]?.getD undef = .bool true := (RY.ev_tmp a 117).trans (hd 6 _ 117 rfl rfl ⟨⟨6, .data⟩, by simp, rfl, rfl⟩)
            have e130 : a.tmps[130]?.getD undef = .bool false := (RY.ev_tmp a 130).trans (hd 19 _ 130 rfl rfl ⟨⟨19, .data⟩, by simp, rfl, rfl⟩)
            exact Or.inl ⟨RY.wanted_no rfl, Or.inl ⟨.bool false, X, by simp [execOp, go_sem, e117, e130], Below.refl _ _, rfl⟩⟩
          | n + 21, ho => simp at ho
        intro X vs hX hvs
        have q131 : vs 131 = _ := hvs 20 _ 131 rfl rfl
        simp only [RY.putAll, Act.put, List.setIfInBounds_toArray, List.set_cons_zero, List.set_cons_succ]
        rw [q131]
        generalize vs 111 = s111
        generalize vs 112 = s112
        generalize vs 113 = s113
        generalize vs 114 = s114
        generalize vs 115 = s115
        generalize vs 116 = s116
        generalize vs 117 = s117
        generalize vs 118 = s118
        generalize vs 119 = s119
        generalize vs 120 = s120
        generalize vs 121 = s121
        generalize vs 122 = s122
        generalize vs 123 = s123
        generalize vs 124 = s124
        generalize vs 125 = s125
        generalize vs 126 = s126
        generalize vs 127 = s127
        generalize vs 128 = s128
        generalize vs 129 = s129
        generalize vs 130 = s130
        clear hvs q131
        replace HBX := uh (blw_trans HBX.out hX)
        clear hX
        go_wp2
        go_roundw
        case rel => exact ⟨k + 1, by omega, by go_num, HBX⟩
        case measure => simp [intOf]; omega

end Go.Proofs.Ytfhobegepiijhaa
