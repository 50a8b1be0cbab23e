/-
  Sheets: what is said, or what is meant: the specification.
-/
import Derived.Test.YtikacjpbnoihjaaEGf
import Derived.Test.YtikacjpbnoihjaaELc
import Derived.Test.YtikacjpbnoihjaaECb
namespace Go.Proofs.Ytikacjpbnoihjaa
open Go.RowKit Go.Deep

set_option maxHeartbeats 4000000 in
theorem l41OfS (b : Pl.Bl) (lv : Value) (key : ByteArray) (w : World) (h : Raw w shLns [lnsD b.lines] [lv]) (hl : b.lines.length ≤ 4194304) (hw : ∀ x ∈ b.lines, x.ws.length ≤ 4194304) :
    Calls Try.prog 17 #[.agg #[.string b.kind, .string b.name, lv], .string key] w (AnsL shLns (lnsD (Pl.linesOf b.lines key)) w) := by
  have HL := uh h
  have HWS := uh hw
  obtain ⟨va, vc, ev⟩ := h.len0
  subst ev
  clear h hw
  obtain ⟨l, hl0⟩ : ∃ l, l = b.lines := ⟨_, rfl⟩
  rw [← hl0] at HL HWS hl ⊢
  clear hl0
  obtain ⟨n, hn⟩ : ∃ n, n = l.length := ⟨_, rfl⟩
  have HN := uh hn
  have hnz : n ≤ 4194304 := by omega
  have hnn : l.length = n := hn.symm
  clear hn hl
  rw [hnn]
  clear hnn
  obtain ⟨wa, hwa⟩ : ∃ wa, wa = w.alloc (.cells #[.string b.kind, .string b.name, .slice va n vc] 44) := ⟨_, rfl⟩
  have HBA : Hid (Below w.heap.size w wa) := by show Below _ _ _; rw [hwa]; exact blw_alloc (Below.refl _ _) _
  have HB0 : Hid (LBox wa w.heap.size [.string b.kind, .string b.name, .slice va n vc]) := by show LBox _ _ _; rw [hwa]; exact LBox.new w #[.string b.kind, .string b.name, .slice va n vc] _ _ rfl
  have HLA := uh (HL.out.later HBA.out)
  go_enter Try.func17, Try.ntmps17
  go_upto_region 1 with fail
  rw [← hwa]
  clear hwa
  obtain ⟨b0, hb0⟩ : ∃ b0, b0 = w.heap.size := ⟨_, rfl⟩
  rw [← hb0] at HB0 ⊢
  have HBZ := uh hb0
  clear hb0
  go_wp2
  go_loopw [5, 6] (fun vo vi wr => ∃ (k : Nat) (xs : List Value), k ≤ n ∧ vi = .int .i64 k ∧ Sv wa wr 52 shSheetLine vo (Pl.linesOf (l.take k) key).length ((Pl.linesOf (l.take k) key).flatMap lnD) xs ∧ Below wa.heap.size wa wr) (fun _ vi _ => n - (intOf vi).toNat)
  case atStart => exact ⟨0, [], Nat.zero_le _, rfl, Sv.emp shSheetLine (heap_alloc_new wa _) (Nat.le_refl _), blw_alloc (Below.refl _ _) _⟩
  case round =>
    obtain ⟨k, xs, hk, rfl, hG, hB⟩ := hrel
    have HGr := uh hG
    have HBr := uh hB
    obtain ⟨ua, uc, huu⟩ := hG.shape
    subst huu
    have x2 := (HB0.out.later hB).get 2 _ rfl
    have xl := (HB0.out.later hB).lt
    clear hG hB
    by_cases hlt : k < n
    rotate_left
    · have hks : l.take k = l := List.take_of_length_le (by have := HN.out; omega)
      rw [hks] at HGr ⊢
      have HC := uh (l39LinesS (Pl.linesOf l key) _ wr (HGr.out.done HBr.out) (Nat.le_trans (Pl.linesOf_len _ _) (by have := HN.out; omega)) (fun x hx => HWS.out x (List.mem_filter.1 hx).1))
      clear hks
      go_wp2_with fail
      refine HC.out.mono ?_
      rintro e w1 ⟨v1, F, rfl, hr, nd, lo, hb⟩
      have HD : Hid (AnsL shLns (lnsD (Pl.linesOf l key)) w (.returned v1) w1) := ⟨_, F, rfl, hr, nd, fun b hb => Nat.le_trans (Nat.le_trans HBA.out.size HBr.out.size) (lo b hb), blw_trans (blw_trans HBA.out HBr.out) hb⟩
      clear hr nd lo hb
      go_wp2
      go_ret
      exact HD.out
    have hkL : k < l.length := by have := HN.out; omega
    rcases lns_open HLA.out with ⟨e0, _⟩ | ⟨p, o, c, hv, hp, hml, hopen⟩
    · omega
    rw [← HN.out] at hv
    injection hv with g1 _ g3
    subst g1; subst g3
    obtain ⟨aw, cw, hgx, hrx⟩ := hopen k hkL
    have HST := uh (Pl.linesOf_step (key := key) hkL)
    have hle : (Pl.linesOf (l.take k) key).length ≤ n := Nat.le_trans (Pl.linesOf_len _ _) (by rw [List.length_take]; omega)
    obtain ⟨x, hx⟩ : ∃ x, x = l.getD k Pl.lnNo := ⟨_, rfl⟩
    rw [← hx] at hgx hrx HST
    have hgr : wr.rangeAt p (o + k * 2) [.string x.key, .slice aw x.ws.length cw] := rA_later hgx hp HBr.out
    have HRX : Hid (Raw wa shSheetLine (lnD x) [.string x.key, .slice aw x.ws.length cw]) := .s _ hrx
    have y0 : wr.cell? ⟨p, o + k * 2, none⟩ = some (.string x.key) := rA_get hgr 0 _ rfl
    obtain ⟨m, hm⟩ : ∃ m, m = (Pl.linesOf (l.take k) key).length := ⟨_, rfl⟩
    rw [← hm] at HGr hle ⊢
    have HM := uh hm
    have hk0 : (0 : Int) ≤ (k : Int) := by omega
    have hkn : (k : Int) < (n : Int) := by omega
    clear hx hgx hrx hopen hml hp hm
    cases hq : (x.key.toList == key.toList)
    · have HE : Hid (Pl.linesOf (l.take (k + 1)) key = Pl.linesOf (l.take k) key) := by show _ = _; rw [HST.out, hq]; rfl
      go_wp2
      go_roundw
      case rel => exact ⟨k + 1, xs, by omega, by go_num, by rw [HE.out, ← HM.out]; exact HGr.out, HBr.out⟩
      case measure => simp [intOf]; omega
    · have HE : Hid (Pl.linesOf (l.take (k + 1)) key = Pl.linesOf (l.take k) key ++ [x]) := by show _ = _; rw [HST.out, hq]; rfl
      go_wp2_with first | refine wpList_load_mid rfl 52 _ rfl p (o + k * 2) rfl [.string x.key, .slice aw x.ws.length cw] _ hgr Try.underlying52 rfl (by kernel_rfl) ?_ | (refine sv_push (wa := wa) rfl _ _ rfl (.slice ua m uc) m _ xs rfl (HGr.out.later (blw_alloc (Below.refl _ _) _)) wr.heap.size 1 (lnD x) [.string x.key, .slice aw x.ws.length cw] rfl HRX.out (World.news_of_block (cs := #[.string x.key, .slice aw x.ws.length cw]) (heap_alloc_new wr _)) (by omega) (Nat.le_trans HBr.out.size (by simp)) ?_; intro gg1 cc1 w1 q1 q2; have HQ := uh (And.intro q1 (HGr.out.later (blw_alloc (Below.refl _ _) _) |>.below (blw_alloc HBr.out _) q2)); clear q1 q2)
      go_roundw
      case rel => exact ⟨k + 1, _, by omega, by go_num, by rw [HE.out, List.length_append, ← HM.out, List.flatMap_append, List.flatMap_singleton]; exact HQ.out.1, HQ.out.2⟩
      case measure => simp [intOf]; omega

end Go.Proofs.Ytikacjpbnoihjaa

namespace Go.Proofs.Ytikacjpbnoihjaa
open Go.RowKit Go.Deep

theorem getNo {s : List Pl.Bl} {kind name key : ByteArray} (h : Pl.validS s = false ∨ Pl.findB s kind name = none ∨ Pl.ruIx (Pl.rulesOf kind) key = none) : Pl.getOut s kind name key = ([], false) := by
  unfold Pl.getOut
  split
  · rename_i h1 h2 h3
    rw [h1, h2, h3] at h
    simp at h
  · rfl
theorem getYes {s : List Pl.Bl} {kind name key : ByteArray} {k r : Nat} (h1 : Pl.validS s = true) (h2 : Pl.findB s kind name = some k) (h3 : Pl.ruIx (Pl.rulesOf kind) key = some r) : Pl.getOut s kind name key = (if decide ((Pl.linesOf (s.getD k Pl.blNo).lines key).length = 0) && !((Pl.rulesOf kind).getD r Pl.ruNo).many then [⟨key, ((Pl.rulesOf kind).getD r Pl.ruNo).dflt⟩] else Pl.linesOf (s.getD k Pl.blNo).lines key, true) := by
  unfold Pl.getOut
  rw [h1, h2, h3]

set_option maxRecDepth 8000 in
set_option maxHeartbeats 8000000 in
theorem sheetGetS (s : List Pl.Bl) (v : Value) (kind name key : ByteArray) (w : World) (h : Raw w shBls [blsD s] [v]) (hz : okTx s) (hl : ∀ b ∈ s, b.lines.length ≤ 4194304 ∧ ∀ x ∈ b.lines, x.ws.length ≤ 4194304) :
    Calls Try.prog 5 #[.agg #[v], .string kind, .string name, .string key] w (AnsLB shLns (lnsD (Pl.getOut s kind name key).1) (Pl.getOut s kind name key).2 w) := by
  have HL := uh h
  have HZ := uh hz
  have HLL := uh hl
  obtain ⟨va, vc, ev⟩ := h.len0
  subst ev
  have HNO := uh (fun h => getNo (s := s) (kind := kind) (name := name) (key := key) h)
  have HYES := uh (fun k r h1 h2 h3 => getYes (s := s) (kind := kind) (name := name) (key := key) (k := k) (r := r) h1 h2 h3)
  clear h hz hl
  obtain ⟨n, hn⟩ : ∃ n, n = s.length := ⟨_, rfl⟩
  have HN := uh hn
  have hnn : s.length = n := hn.symm
  clear hn
  rw [hnn]
  clear hnn
  obtain ⟨wa, hwa⟩ : ∃ wa, wa = w.alloc (.cells #[.slice va n vc] 31) := ⟨_, rfl⟩
  have HBA : Hid (Below w.heap.size w wa) := by show Below _ _ _; rw [hwa]; exact blw_alloc (Below.refl _ _) _
  have HB0 : Hid (LBox wa w.heap.size [.slice va n vc]) := by show LBox _ _ _; rw [hwa]; exact LBox.new w #[.slice va n vc] _ _ rfl
  have HLA : Hid (Raw wa shBls [blsD s] [.slice va n vc]) := by show Raw _ _ _ _; rw [HN.out]; exact HL.out.later HBA.out
  go_enter Try.func5, Try.ntmps5
  go_upto_region 1 with fail
  rw [← hwa]
  clear hwa
  obtain ⟨b0, hb0⟩ : ∃ b0, b0 = w.heap.size := ⟨_, rfl⟩
  rw [← hb0] at HB0 ⊢
  have HBZ := uh hb0
  clear hb0
  have r0 := HB0.out.at_
  have HC1 := uh (l39FindS s (.slice va n vc) kind name wa HLA.out)
  go_wp2_with (refine wpList_load_mid rfl 31 _ rfl b0 0 rfl [.slice va n vc] _ r0 Try.underlying31 rfl (by kernel_rfl) ?_)
  refine HC1.out.mono ?_
  rintro e w1 ⟨rfl, hb1⟩
  have HB1 := uh hb1
  have HC2 := uh (l38RuleS kind key w1)
  clear hb1 r0 HC1
  go_wp2_with fail
  refine HC2.out.mono ?_
  rintro e w2 ⟨rfl, hb2⟩
  have HB2 : Hid (Below wa.heap.size wa w2) := blw_trans HB1.out hb2
  clear hb2 HC2 HB1
  have r0 := (HB0.out.later HB2.out).at_
  have HC3 := uh (sheetValidS s (.slice va n vc) w2 (HLA.out.later HB2.out) HZ.out)
  go_wp2_with (refine wpList_load_mid rfl 31 _ rfl b0 0 rfl [.slice va n vc] _ r0 Try.underlying31 rfl (by kernel_rfl) ?_)
  refine HC3.out.mono ?_
  rintro e w3 ⟨rfl, hb3⟩
  have HB3 : Hid (Below wa.heap.size wa w3) := blw_trans HB2.out hb3
  clear hb3 HC3 HB2 r0
  obtain ⟨fo, hfo⟩ : ∃ x, x = Pl.findB s kind name := ⟨_, rfl⟩
  obtain ⟨ro, hro⟩ : ∃ x, x = Pl.ruIx (Pl.rulesOf kind) key := ⟨_, rfl⟩
  obtain ⟨vb, hvb⟩ : ∃ x, x = Pl.validS s := ⟨_, rfl⟩
  rw [← hfo, ← hro, ← hvb] at HNO ⊢
  have HF := uh (And.intro hfo (And.intro hro hvb))
  clear hfo hro hvb
  have HNE : Hid ((vb = false ∨ fo = none ∨ ro = none) → AnsLB shLns (lnsD (Pl.getOut s kind name key).1) (Pl.getOut s kind name key).2 w (.returned (.tuple #[.slice (some ⟨w3.heap.size, 0, none⟩) 0 0, .bool false])) (w3.alloc (.cells #[] 52))) := fun h => by
    rw [HNO.out h]
    exact ⟨_, [], rfl, .emp _ _ _ rfl .nil, List.nodup_nil, by simp, blw_alloc (blw_trans HBA.out HB3.out) _⟩
  clear HNO
  cases vb
  · have HX := uh (HNE.out (Or.inl rfl))
    clear HNE
    go_wp2
    go_ret2
    exact HX.out
  cases fo with
  | none =>
    have HX := uh (HNE.out (Or.inr (Or.inl rfl)))
    have hm : Pl.ixI none = -1 := rfl
    rw [hm]
    clear HNE hm
    go_wp2
    go_ret2
    exact HX.out
  | some k =>
  cases ro with
  | none =>
    have HX := uh (HNE.out (Or.inr (Or.inr rfl)))
    have hm : Pl.ixI none = -1 := rfl
    have hm2 : Pl.ixI (some k) = (k : Int) := rfl
    have hk0 : ¬ ((k : Int) < 0) := by omega
    rw [hm, hm2]
    clear HNE hm hm2
    go_wp2
    go_ret2
    exact HX.out
  | some r =>
  clear HNE
  have hm1 : Pl.ixI (some r) = (r : Int) := rfl
  have hm2 : Pl.ixI (some k) = (k : Int) := rfl
  have hk0 : ¬ ((k : Int) < 0) := by omega
  have hr0 : ¬ ((r : Int) < 0) := by omega
  rw [hm1, hm2]
  clear hm1 hm2
  have HOUT := uh (HYES.out k r HF.out.2.2.symm HF.out.1.symm HF.out.2.1.symm)
  have hkL : k < s.length := Pl.findB_lt HF.out.1.symm
  have hrL : r < (Pl.rulesOf kind).length := Pl.ruIx_lt HF.out.2.1.symm
  rcases bls_open (HLA.out.later HB3.out) with ⟨e0, _⟩ | ⟨p, o, c, hv, hp, hml, hopen⟩
  · omega
  rw [← HN.out] at hv hml
  injection hv with g1 _ g3
  subst g1; subst g3
  obtain ⟨ax, cx, hgx, hrx⟩ := hopen k hkL
  have hlb : (s.getD k Pl.blNo).lines.length ≤ 4194304 ∧ ∀ x ∈ (s.getD k Pl.blNo).lines, x.ws.length ≤ 4194304 := by
    have e : s.getD k Pl.blNo = s[k] := by simp [hkL]
    rw [e]; exact HLL.out _ (List.getElem_mem hkL)
  obtain ⟨x, hx⟩ : ∃ x, x = s.getD k Pl.blNo := ⟨_, rfl⟩
  rw [← hx] at hgx hrx HOUT hlb
  have HC4 := uh (l41OfS x (.slice ax x.lines.length cx) key w3 hrx hlb.1 hlb.2)
  have x0 := (HB0.out.later HB3.out).get 0 _ rfl
  have xl := (HB0.out.later HB3.out).lt
  have hk1 : (0 : Int) ≤ (k : Int) := by omega
  have hkn : (k : Int) < (n : Int) := by have := HN.out; omega
  clear hx hopen hrx hlb hml
  go_wp2_with (refine wpList_load_mid rfl 44 _ rfl p (o + k * 3) rfl [.string x.kind, .string x.name, .slice ax x.lines.length cx] _ hgx Try.underlying44 rfl (by kernel_rfl) ?_)
  refine HC4.out.mono ?_
  rintro e w4 ⟨v4, F4, rfl, hr4, nd4, lo4, hb4⟩
  have HB4 : Hid (Below wa.heap.size wa w4) := blw_trans HB3.out hb4
  have H4 : Hid (Rep w4 false shLns F4 [lnsD (Pl.linesOf x.lines key)] [v4] ∧ F4.Nodup ∧ ∀ b ∈ F4, wa.heap.size ≤ b) := ⟨hr4, nd4, fun b hb => Nat.le_trans HB3.out.size (lo4 b hb)⟩
  obtain ⟨a4, c4, hv4⟩ := hr4.raw.len0
  subst hv4
  have HC5 := uh (sheetRulesS kind w4)
  clear hr4 nd4 lo4 hb4 HB3 HC4 x0 xl hk1 hkn hgx hp hk0 hr0
  obtain ⟨out, hout⟩ : ∃ z, z = Pl.linesOf x.lines key := ⟨_, rfl⟩
  rw [← hout] at H4 HOUT ⊢
  clear hout
  go_wp2_with fail
  refine HC5.out.mono ?_
  rintro e w5 ⟨v5, F5, rfl, hr5, nd5, lo5, hb5⟩
  obtain ⟨p5, o5, c5, a1, c1, v3, hv5, hp5, hg5, _, hd5⟩ := rule_at hr5.raw hrL
  have HB5 : Hid (Below wa.heap.size wa w5) := blw_trans HB4.out hb5
  have H5 : Hid (Rep w5 false shLns F4 [lnsD out] [.slice a4 out.length c4]) := H4.out.1.later hb5
  obtain ⟨a3, c3, hv3⟩ := hd5.len0
  subst hv3; subst hv5
  have hdl : ((Pl.rulesOf kind).getD r Pl.ruNo).dflt.length ≤ 4194304 := by
    have h1 : ∀ x ∈ Pl.rulesOf kind, x.dflt.length ≤ 4194304 := by
      unfold Pl.rulesOf
      split
      · decide
      · split
        · decide
        · split <;> decide
    have e : (Pl.rulesOf kind).getD r Pl.ruNo = (Pl.rulesOf kind)[r] := by simp [hrL]
    rw [e]; exact h1 _ (List.getElem_mem hrL)
  obtain ⟨ru, hru⟩ : ∃ x, x = (Pl.rulesOf kind).getD r Pl.ruNo := ⟨_, rfl⟩
  rw [← hru] at hg5 hd5 HOUT hdl
  clear hru
  obtain ⟨m, hm⟩ : ∃ m, m = (Pl.rulesOf kind).length := ⟨_, rfl⟩
  rw [← hm] at hrL ⊢
  clear hm
  have hr1 : (0 : Int) ≤ (r : Int) := by omega
  have hrn : (r : Int) < (m : Int) := by omega
  obtain ⟨w6, hw6⟩ : ∃ w6, w6 = w5.alloc (.cells #[.string ru.key, .slice a1 ru.args.length c1, .bool ru.many, .slice a3 ru.dflt.length c3] 48) := ⟨_, rfl⟩
  have hb6 : Below w5.heap.size w5 w6 := by rw [hw6]; exact blw_alloc (Below.refl _ _) _
  obtain ⟨b6, hb6z⟩ : ∃ b, b = w5.heap.size := ⟨_, rfl⟩
  have HBX : Hid (LBox w6 b6 [.string ru.key, .slice a1 ru.args.length c1, .bool ru.many, .slice a3 ru.dflt.length c3]) := by show LBox _ _ _; rw [hw6, hb6z]; exact LBox.new w5 #[.string ru.key, .slice a1 ru.args.length c1, .bool ru.many, .slice a3 ru.dflt.length c3] _ _ rfl
  have H6 := uh (H5.out.later hb6)
  have HB6 : Hid (Below wa.heap.size wa w6) := blw_trans HB5.out hb6
  have HD6 := uh (hd5.later hb6)
  have HDL := uh hdl
  clear hr5 nd5 lo5 hb5 hd5 hdl HC5 HB4
  go_upto_region 7 with (refine wpList_load_mid rfl 48 _ rfl p5 (o5 + r * 4) rfl [.string ru.key, .slice a1 ru.args.length c1, .bool ru.many, .slice a3 ru.dflt.length c3] _ hg5 Try.underlying48 rfl (by kernel_rfl) ?_)
  rw [← hw6, ← hb6z]
  clear hw6 hb6z hb6 hg5 hp5 hr1 hrn H5 HB5
  have x2 := HBX.out.get 2 _ rfl
  have xl := HBX.out.lt
  have HD : Hid (AnsLB shLns (lnsD out) true w (.returned (.tuple #[.slice a4 out.length c4, .bool true])) w6) := ⟨_, F4, rfl, H6.out, H4.out.2.1, fun b hb => Nat.le_trans HBA.out.size (H4.out.2.2 b hb), blw_trans HBA.out HB6.out⟩
  by_cases h0 : out.length = 0
  rotate_left
  · have HG : Hid (Pl.getOut s kind name key = (out, true)) := by show _ = _; rw [HOUT.out]; simp [h0]
    have hi0 : ¬ ((out.length : Int) = 0) := by omega
    go_wp2
    go_ret2
    rw [HG.out]
    exact HD.out
  cases hmy : ru.many
  rotate_left
  · have HG : Hid (Pl.getOut s kind name key = (out, true)) := by show _ = _; rw [HOUT.out]; simp [hmy]
    rw [hmy] at x2
    have hi0 : (out.length : Int) = 0 := by omega
    go_wp2
    go_ret2
    rw [HG.out]
    exact HD.out
  have HG : Hid (Pl.getOut s kind name key = ([⟨key, ru.dflt⟩], true)) := by show _ = _; rw [HOUT.out]; simp [hmy, h0]
  rw [hmy] at x2
  have hi0 : (out.length : Int) = 0 := by omega
  clear HD H6 H4
  obtain ⟨w7, hw7⟩ : ∃ w7, w7 = w6.alloc (.cells #[] 9) := ⟨_, rfl⟩
  have hb7 : Below w6.heap.size w6 w7 := by rw [hw7]; exact blw_alloc (Below.refl _ _) _
  obtain ⟨v8, w8, xs8, hrun, hg8, hb8⟩ := app_copy (P := Try.prog) w6.heap.size 46 46 9 9 1 16 _ Try.under_texts Try.info_text rfl (by decide) (by decide) [.s] rfl (by simp [flatB]) w7 (.slice (some ⟨w6.heap.size, 0, none⟩) 0 0) (Or.inr ⟨w6.heap.size, rfl, Nat.le_refl _, by rw [hw7]; exact heap_alloc_new _ _⟩) hb7.size ru.dflt.length (txD ru.dflt) (.slice a3 ru.dflt.length c3) (HD6.out.later hb7) HDL.out
  have x3 := (HBX.out.later hb7).get 3 _ rfl
  have xl3 := (HBX.out.later hb7).lt
  rw [hw7] at hrun x3 xl3
  obtain ⟨wx, wc, hvx⟩ := hg8.shape
  subst hvx
  obtain ⟨FA, rA, ndA, frA⟩ := hg8.done
  obtain ⟨w9, hw9⟩ : ∃ w9, w9 = w8.alloc (.cells #[.string key, .slice wx ru.dflt.length wc] 52) := ⟨_, rfl⟩
  have hb9 : Below w8.heap.size w8 w9 := by rw [hw9]; exact blw_alloc (Below.refl _ _) _
  have HD : Hid (AnsLB shLns (lnsD [⟨key, ru.dflt⟩]) true w (.returned (.tuple #[.slice (some ⟨w8.heap.size, 0, none⟩) 1 1, .bool true])) w9) := by
    refine ⟨_, w8.heap.size :: ((FA ++ []) ++ []), rfl, ?_, ?_, ?_, ?_⟩
    · refine .row _ _ w8.heap.size 0 1 1 52 2 [.string key, .slice wx ru.dflt.length wc] _ (FA ++ []) ?_ (by decide) (by simp) ⟨by decide, Nat.le_refl _⟩ ?_ ?_ .nil
      · rw [hw9]; exact OwnBlk.alloc w8 #[.string key, .slice wx ru.dflt.length wc] 52 _ rfl
      · rw [hw9]; exact (LBox.new w8 #[.string key, .slice wx ru.dflt.length wc] _ _ rfl).at_
      · exact repSheetLine_mk key (rA.later hb9)
    · rw [List.append_nil, List.append_nil, List.nodup_cons]
      exact ⟨fun h => by have := rA.lt _ h; omega, ndA⟩
    · intro b hb
      rw [List.append_nil, List.append_nil] at hb
      have := HBA.out.size; have := HB6.out.size; have := hb7.size; have := hb8.size
      rcases List.mem_cons.1 hb with rfl | hb
      · omega
      · have := frA b hb; omega
    · exact blw_trans (blw_trans (blw_trans (blw_trans HBA.out HB6.out) hb7) hb8) hb9
  clear hb7 hg8 rA ndA frA hb9 hb8
  go_upto_region 9 with (at_builtin; refine Go.Lib.wpList_append_run _ rfl _ _ 46 46 rfl _ _ rfl rfl _ w8 hrun ?_)
  rw [← hw9]
  clear hw9 hw7 hrun
  go_wp2
  go_ret2
  rw [HG.out]
  exact HD.out

end Go.Proofs.Ytikacjpbnoihjaa
