/-
  Walks: what rules cover: the program.
-/
import Derived.OwnWalk
import Derived.Deep.RegionLaw
import Derived.Test.YtfmidkdpclfffaaDoorWalkSB
namespace Go.Proofs.YtfmidkdpclfffaaDoor
open Go.RowKit Go.Deep

variable {CT CR CV CQ CL : Nat}

theorem grown_of_below {w w' : World} (h : Below w.heap.size w w') : w.grownBy w' none := ⟨h.os, h.tape, h.output, h.size, fun k hk _ => h.block k hk⟩
theorem owns_later {w w' : World} {lo : Nat} {e : TypeId} {size : Nat} {v : Value} {n : Nat} {xs : List Value} (h : w.ownsRow lo e size v n xs) (hb : Below w.heap.size w w') : w'.ownsRow lo e size v n xs :=
  h.kept (grown_of_below hb) (by cases hv : v.ownBlock <;> simp)
theorem owns_slice {w : World} {lo : Nat} {e : TypeId} {size : Nat} {v : Value} {n : Nat} {xs : List Value} (h : w.ownsRow lo e size v n xs) : ∃ a c, v = .slice a n c := by
  rcases h.2 with ⟨rfl, rfl⟩ | ⟨g, cap, cur, rfl, _⟩
  · exact ⟨_, _, rfl⟩
  · exact ⟨_, _, rfl⟩

theorem Tryd.info74 : (Tryd.prog.info? 74).map (fun i => (i.zero, i.size, i.bytes)) = some (some .nilFunc, 1, 8) := by kernel_rfl

/-- Rules as functions, in a row of the call's own. -/
def GivesOwn (CT : Nat) (w : World) (lo : Nat) (v : Value) (B : Nat) (ts : List Tm) (L : List Rul) : Prop :=
  ∃ xs, w.ownsRow lo 74 1 v L.length xs ∧ ∀ i, i < L.length → ∃ b CQ : Nat, xs[i]? = some (.func (.func 31) #[.agg #[.slice (some ⟨B, 0, none⟩) ts.length CT, .slice (some ⟨b, 0, none⟩) (L.getD i Rul.none).verbs.length CQ, .string (L.getD i Rul.none).kind, .string (L.getD i Rul.none).team, .string (L.getD i Rul.none).pre, .int .u8 (setIf (L.getD i Rul.none).verbs : Nat)]] #[])

theorem GivesOwn.later {w w' : World} {lo : Nat} {v : Value} {B : Nat} {ts : List Tm} {L : List Rul} (h : GivesOwn CT w lo v B ts L) (hb : Below w.heap.size w w') : GivesOwn CT w' lo v B ts L := by
  obtain ⟨xs, h1, h2⟩ := h
  exact ⟨xs, owns_later h1 hb, h2⟩

theorem gives_add {w w' : World} {lo : Nat} {v v' : Value} {B : Nat} {ts : List Tm} {L : List Rul} {q : Rul} {b : Nat} {xs : List Value} (h : w.ownsRow lo 74 1 v L.length xs) (hx : ∀ i, i < L.length → ∃ b CQ : Nat, xs[i]? = some (.func (.func 31) #[.agg #[.slice (some ⟨B, 0, none⟩) ts.length CT, .slice (some ⟨b, 0, none⟩) (L.getD i Rul.none).verbs.length CQ, .string (L.getD i Rul.none).kind, .string (L.getD i Rul.none).team, .string (L.getD i Rul.none).pre, .int .u8 (setIf (L.getD i Rul.none).verbs : Nat)]] #[]))
    (ho : w'.ownsRow lo 74 1 v' (L.length + 1) (xs ++ [.func (.func 31) #[.agg #[.slice (some ⟨B, 0, none⟩) ts.length CT, .slice (some ⟨b, 0, none⟩) q.verbs.length CQ, .string q.kind, .string q.team, .string q.pre, .int .u8 (setIf q.verbs : Nat)]] #[]])) : GivesOwn CT w' lo v' B ts (L ++ [q]) := by
  have hl : xs.length = L.length := by have := h.1; omega
  refine ⟨_, by rw [List.length_append]; exact ho, fun i hi => ?_⟩
  rw [List.length_append, List.length_singleton] at hi
  by_cases hik : i < L.length
  · have e : (L ++ [q]).getD i Rul.none = L.getD i Rul.none := by simp [hik, List.getElem?_append_left hik]
    rw [e]
    obtain ⟨b', cq, hb'⟩ := hx i hik
    exact ⟨b', cq, by rw [List.getElem?_append_left (by omega)]; exact hb'⟩
  · obtain rfl : i = L.length := by omega
    have e : (L ++ [q]).getD L.length Rul.none = q := by simp
    rw [e]
    exact ⟨b, CQ, by rw [List.getElem?_append_right (by omega), hl]; simp⟩

/-- Rules as functions, to be read. -/
def GivesAt (CT : Nat) (w : World) (v : Value) (B : Nat) (ts : List Tm) (L : List Rul) : Prop :=
  (L = [] ∧ ∃ a c, v = .slice a 0 c) ∨ ∃ g c, v = .slice (some ⟨g, 0, none⟩) L.length c ∧ g < w.heap.size ∧ ∀ i, i < L.length → ∃ b CQ : Nat, w.cell? ⟨g, i, none⟩ = some (.func (.func 31) #[.agg #[.slice (some ⟨B, 0, none⟩) ts.length CT, .slice (some ⟨b, 0, none⟩) (L.getD i Rul.none).verbs.length CQ, .string (L.getD i Rul.none).kind, .string (L.getD i Rul.none).team, .string (L.getD i Rul.none).pre, .int .u8 (setIf (L.getD i Rul.none).verbs : Nat)]] #[])

theorem GivesOwn.at_ {w : World} {lo : Nat} {v : Value} {B : Nat} {ts : List Tm} {L : List Rul} (h : GivesOwn CT w lo v B ts L) : GivesAt CT w v B ts L := by
  obtain ⟨xs, h, hx⟩ := h
  have hcs : ∀ g, v.ownBlock = some g → ∀ j u, xs[j]? = some u → w.cell? ((⟨g, 0, none⟩ : Addr).add j) = some u := fun g hg => World.ownsRow.cells h hg
  rcases h.2 with ⟨rfl, hn⟩ | ⟨g, cap, cur, rfl, _, hg, _⟩
  · exact Or.inl ⟨List.length_eq_zero_iff.1 hn, _, _, rfl⟩
  · refine Or.inr ⟨g, cap, rfl, (Array.getElem?_eq_some_iff.1 hg).1, fun i hi => ?_⟩
    obtain ⟨b, cq, hb⟩ := hx i hi
    have := hcs g rfl i _ hb
    rw [Addr.add_lit, Nat.zero_add] at this
    exact ⟨b, cq, this⟩

theorem GivesAt.later {w w' : World} {v : Value} {B : Nat} {ts : List Tm} {L : List Rul} (h : GivesAt CT w v B ts L) (hb : Below w.heap.size w w') : GivesAt CT w' v B ts L := by
  rcases h with h | ⟨g, c, rfl, h1, h2⟩
  · exact Or.inl h
  · refine Or.inr ⟨g, c, rfl, Nat.lt_of_lt_of_le h1 hb.size, fun i hi => ?_⟩
    obtain ⟨b, cq, hb'⟩ := h2 i hi
    exact ⟨b, cq, (hb.cell (p := ⟨g, i, none⟩) h1).trans hb'⟩

theorem ret_list {a : Option Addr} {n c : Nat} {x y : Bool} (h : x = y) : Ending.returned (.tuple #[.slice a n c, .bool x]) = .returned (.tuple #[.slice a n c, .bool y]) := by rw [h]

theorem take_snocR (rs : List Rul) (k : Nat) (hk : k < rs.length) : rs.take (k + 1) = rs.take k ++ [rs.getD k Rul.none] := by
  have e : rs.getD k Rul.none = rs[k] := by simp [hk]
  rw [List.take_succ_eq_append_getElem hk, e]

set_option maxRecDepth 8000 in
set_option maxHeartbeats 8000000 in
theorem gateGivesOf (B Br : Nat) (ts : List Tm) (rs : List Rul) (w : World) (hT : TmsIn w B ts) (hR : RulsIn w Br rs) :
    Calls Tryd.prog 39 #[.slice (some ⟨B, 0, none⟩) ts.length CT, .slice (some ⟨Br, 0, none⟩) rs.length CR] w fun e w' => (∃ a n c, e = .returned (.tuple #[.slice a n c, .bool (teamsOk ts && rs.all ruleOk)]) ∧ ((teamsOk ts && rs.all ruleOk) = true → n = rs.length ∧ GivesAt CT w' (.slice a n c) B ts rs)) ∧ Below w.heap.size w w' := by
  have hl := hR.len
  have HM : Hid (∀ W, Below w.heap.size w W → TmsIn W B ts ∧ RulsIn W Br rs) := fun W hW => ⟨hT.later hW, hR.later hW⟩
  obtain ⟨i0, hi, hz0, hz1, hz2⟩ := info_parts Tryd.info74
  obtain ⟨G, hG⟩ : ∃ G, G = (teamsOk ts && rs.all ruleOk) := ⟨_, rfl⟩
  have HG : Hid (G = (teamsOk ts && rs.all ruleOk)) := hG
  rw [← hG]
  clear hT hR hG
  go_enter Tryd.func39, Tryd.ntmps39
  go_wp2_with fail
  refine (teamsOkI B ts w (HM.out _ (Below.refl _ _)).1).mono ?_
  rintro e w1 ⟨rfl, hb1⟩
  have HB1 : Hid (Below w.heap.size w w1) := hb1
  have HM1 : Hid (∀ W, Below w1.heap.size w1 W → TmsIn W B ts ∧ RulsIn W Br rs) := fun W hW => HM.out W (blw_trans hb1 hW)
  clear hb1 HM
  cases ht : teamsOk ts
  · have HE : Hid (G = false) := by show G = false; rw [HG.out, ht]; rfl
    go_wp2
    refine bodyPost_ret (v := .tuple #[.slice none 0 0, .bool false]) (by simp [results, Tryd.results39, go_sem]) rfl ⟨⟨none, 0, 0, ret_list HE.out.symm, fun h => ?_⟩, HB1.out⟩
    rw [HE.out] at h
    cases h
  have HGG : Hid (G = rs.all ruleOk) := by show G = _; rw [HG.out, ht]; rfl
  clear HG
  go_wp2
  clear ht
  go_loopw [6, 14] (fun v i wr => ∃ (k : Nat) (a : Option Addr) (c : Nat), k ≤ rs.length ∧ i = .int .i64 k ∧ v = .slice a (rs.take k).length c ∧ GivesOwn CT wr w1.heap.size v B ts (rs.take k) ∧ (rs.take k).all ruleOk = true ∧ Below w1.heap.size w1 wr) (fun _ i _ => rs.length - (intOf i).toNat)
  case atStart => exact ⟨0, none, 0, Nat.zero_le _, rfl, rfl, ⟨[], World.ownsRow_nil _ _ _ _, fun i hi => absurd hi (Nat.not_lt_zero i)⟩, rfl, Below.refl _ _⟩
  case round =>
    obtain ⟨k, a, c, hk, rfl, rfl, hO, hall, hW⟩ := hrel
    have hLk : (rs.take k).length = k := by simp; omega
    obtain ⟨L, hL⟩ : ∃ L, L = rs.take k := ⟨_, rfl⟩
    rw [← hL] at hO hall hLk ⊢
    have HQ : Hid (L = rs.take k ∧ L.all ruleOk = true ∧ Below w1.heap.size w1 wr ∧ GivesOwn CT wr w1.heap.size (.slice a L.length c) B ts L ∧ L.length = k) := ⟨hL, hall, hW, hO, hLk⟩
    clear hO hall hW hL hLk
    by_cases hlt : k < rs.length
    · obtain ⟨q, hq⟩ : ∃ q, q = rs.getD k Rul.none := ⟨_, rfl⟩
      have hf := (HM1.out _ HQ.out.2.2.1).2.at_ k hlt
      rw [← hq] at hf
      obtain ⟨bq, CQ, c0, c1, c2, c3, hii, hsz⟩ := hf
      obtain ⟨w2, hw2⟩ : ∃ w2, w2 = wr.alloc (.cells #[.slice (some ⟨bq, 0, none⟩) q.verbs.length CQ, .string q.kind, .string q.team, .string q.pre] 27) := ⟨_, rfl⟩
      have hb2 : Below wr.heap.size wr w2 := by rw [hw2]; exact blw_alloc (Below.refl _ _) _
      have HB2 : Hid (Below wr.heap.size wr w2) := hb2
      have HX2 : Hid (Boxed w2 wr.heap.size #[.slice (some ⟨bq, 0, none⟩) q.verbs.length CQ, .string q.kind, .string q.team, .string q.pre]) := by rw [hw2]; exact Boxed.new wr _ 27
      have HI2 : Hid (IntsIn w2 bq q.verbs ∧ q.sized ∧ q = rs.getD k Rul.none) := ⟨hii.later hb2, hsz, hq⟩
      clear hii hsz hq hb2
      go_upto_region 7 with fail
      rw [← hw2]
      clear hw2 c0 c1 c2 c3
      have p0 : w2.cell? ⟨wr.heap.size, 0, none⟩ = some (.slice (some ⟨bq, 0, none⟩) q.verbs.length CQ) := HX2.out.2 0
      have p1 : w2.cell? ⟨wr.heap.size, 1, none⟩ = some (.string q.kind) := HX2.out.2 1
      have p2 : w2.cell? ⟨wr.heap.size, 2, none⟩ = some (.string q.team) := HX2.out.2 2
      have p3 : w2.cell? ⟨wr.heap.size, 3, none⟩ = some (.string q.pre) := HX2.out.2 3
      go_wp2_with fail
      refine (gateRuleOk bq q w2 HI2.out.1 HI2.out.2.1).mono ?_
      rintro e w3 ⟨rfl, hb3⟩
      have HB3 : Hid (Below wr.heap.size wr w3) := blw_trans HB2.out hb3
      have HX3 : Hid (Boxed w3 wr.heap.size #[.slice (some ⟨bq, 0, none⟩) q.verbs.length CQ, .string q.kind, .string q.team, .string q.pre]) := HX2.out.later hb3
      have HI3 : Hid (IntsIn w3 bq q.verbs) := HI2.out.1.later hb3
      clear hb3 p0 p1 p2 p3 HX2 HB2
      cases hok : ruleOk q
      · have HE : Hid (G = false) := by show G = false; rw [HGG.out]; exact all_falseR _ _ k hlt (by rw [← HI2.out.2.2]; exact hok)
        go_wp2
        refine bodyPost_ret (v := .tuple #[.slice none 0 0, .bool false]) (by simp [results, Tryd.results39, go_sem]) rfl ⟨⟨none, 0, 0, ret_list HE.out.symm, fun h => ?_⟩, blw_trans HB1.out (blw_trans HQ.out.2.2.1 HB3.out)⟩
        rw [HE.out] at h
        cases h
      have HS : Hid (rs.take (k + 1) = L ++ [q] ∧ (L ++ [q]).all ruleOk = true) := by
        refine ⟨?_, ?_⟩
        · rw [take_snocR rs k hlt, ← HQ.out.1, ← HI2.out.2.2]
        · rw [List.all_append, HQ.out.2.1]; simp [hok]
      clear hok
      have p0 : w3.cell? ⟨wr.heap.size, 0, none⟩ = some (.slice (some ⟨bq, 0, none⟩) q.verbs.length CQ) := HX3.out.2 0
      have p1 : w3.cell? ⟨wr.heap.size, 1, none⟩ = some (.string q.kind) := HX3.out.2 1
      have p2 : w3.cell? ⟨wr.heap.size, 2, none⟩ = some (.string q.team) := HX3.out.2 2
      have p3 : w3.cell? ⟨wr.heap.size, 3, none⟩ = some (.string q.pre) := HX3.out.2 3
      go_wp2_with fail
      refine (rightOf B bq ts q w3 HI3.out).mono ?_
      rintro e w4 ⟨rfl, hb4⟩
      have HB4 : Hid (Below wr.heap.size wr w4) := blw_trans HB3.out hb4
      clear hb4 p0 p1 p2 p3 HX3 HB3 HI3
      obtain ⟨xs, hxs1, hxs2⟩ := HQ.out.2.2.2.1.later HB4.out
      have HXX : Hid (w4.ownsRow w1.heap.size 74 1 (.slice a L.length c) L.length xs ∧ ∀ i, i < L.length → ∃ b CQ : Nat, xs[i]? = some (.func (.func 31) #[.agg #[.slice (some ⟨B, 0, none⟩) ts.length CT, .slice (some ⟨b, 0, none⟩) (L.getD i Rul.none).verbs.length CQ, .string (L.getD i Rul.none).kind, .string (L.getD i Rul.none).team, .string (L.getD i Rul.none).pre, .int .u8 (setIf (L.getD i Rul.none).verbs : Nat)]] #[])) := ⟨hxs1, hxs2⟩
      have hle : L.length ≤ 1048576 := by have := HQ.out.2.2.2.2; omega
      have hs4 : w1.heap.size ≤ w4.heap.size := Nat.le_trans HQ.out.2.2.1.size HB4.out.size
      clear hxs1 hxs2
      go_wp2_with (at_builtin; refine wpList_append_own _ rfl _ _ 71 rfl w1.heap.size 74 i0 .nilFunc 1 8 Tryd.underlying71 hi hz0 hz1 hz2 rfl (by decide) (.slice a L.length c) L.length xs rfl ?c0 ⟨w4.heap.size, 0, none⟩ 1 1 [.func (.func 31) #[.agg #[.slice (some ⟨B, 0, none⟩) ts.length CT, .slice (some ⟨bq, 0, none⟩) q.verbs.length CQ, .string q.kind, .string q.team, .string q.pre, .int .u8 (setIf q.verbs : Nat)]] #[]] rfl ?c1 ?c2 ?c3 ?c4 ?c5 ?c6 ?_)
      case c0 => exact owns_later HXX.out.1 (blw_alloc (Below.refl _ _) _)
      case c1 => rfl
      case c2 =>
        intro j u hj
        match j, hj with
        | 0, hj => simp at hj; subst hj; simp [Addr.add]
        | k + 1, hj => simp at hj
      case c3 => intro u hu; simp at hu; rcases hu with rfl; rfl
      case c4 => unfold maxLen; omega
      case c5 => omega
      case c6 => simp; omega
      intro v' w5 hown hgrow _
      obtain ⟨a5, d5, hv5⟩ := owns_slice hown
      subst hv5
      have hbt : Below w4.heap.size w4 (w4.alloc (.cells #[.func (.func 31) #[.agg #[.slice (some ⟨B, 0, none⟩) ts.length CT, .slice (some ⟨bq, 0, none⟩) q.verbs.length CQ, .string q.kind, .string q.team, .string q.pre, .int .u8 (setIf q.verbs : Nat)]] #[]] 74)) := blw_alloc (Below.refl _ _) _
      have HN : Hid (GivesOwn CT w5 w1.heap.size (.slice a5 (L.length + 1) d5) B ts (L ++ [q])) := gives_add (owns_later HXX.out.1 hbt) HXX.out.2 hown
      have HB5 : Hid (Below w1.heap.size w1 w5) := by
        have hq : Below w1.heap.size w1 (w4.alloc (.cells #[.func (.func 31) #[.agg #[.slice (some ⟨B, 0, none⟩) ts.length CT, .slice (some ⟨bq, 0, none⟩) q.verbs.length CQ, .string q.kind, .string q.team, .string q.pre, .int .u8 (setIf q.verbs : Nat)]] #[]] 74)) := blw_trans (blw_trans HQ.out.2.2.1 HB4.out) hbt
        refine Below.grown hq hgrow hq.size (fun x hx => ?_)
        exact (World.ownsRow.lt HXX.out.1 x hx).1
      have HLL : Hid (rs.take (k + 1) = L ++ [q] ∧ (L ++ [q]).all ruleOk = true ∧ (L ++ [q]).length = L.length + 1) := ⟨HS.out.1, HS.out.2, by simp⟩
      clear hown hgrow hbt HXX HS HQ
      go_wp2
      go_roundw
      case rel => exact ⟨k + 1, a5, d5, by omega, by go_num, by rw [HLL.out.1, HLL.out.2.2], by rw [HLL.out.1]; exact HN.out, by rw [HLL.out.1]; exact HLL.out.2.1, HB5.out⟩
      case measure => simp [intOf]; omega
    · have HE : Hid (G = true ∧ L = rs) := by
        have e : L = rs := by rw [HQ.out.1]; exact List.take_of_length_le (by omega)
        refine ⟨?_, e⟩
        rw [HGG.out, ← e]; exact HQ.out.2.1
      go_wp2
      refine bodyPost_ret (v := .tuple #[.slice a L.length c, .bool true]) (by simp [results, Tryd.results39, go_sem]) rfl ⟨⟨a, L.length, c, ret_list HE.out.1.symm, fun _ => ⟨by rw [HE.out.2], ?_⟩⟩, blw_trans HB1.out HQ.out.2.2.1⟩
      have q := HQ.out.2.2.2.1.at_
      have e := HE.out.2
      rw [e] at q
      rw [e]
      exact q

theorem giveN_int (ts : List Tm) (r q : Rul) : (if given ts q r.kind r.team r.pre = true then ((setIf q.verbs : Nat) : Int) else 0) = ((giveN ts r q : Nat) : Int) := by
  unfold giveN
  split <;> rfl

theorem ret_miss {a b : Int} {c d : Bool} (h : a = b) (g : c = d) : Ending.returned (.tuple #[.int .u8 a, .bool c]) = .returned (.tuple #[.int .u8 b, .bool d]) := by rw [h, g]

theorem field_set (a b c d e : Value) (S : Int) (W : World) : (Instr.field 60 (.agg #[a, b, c, d, e, .int .u8 S]) 2).run Tryd.prog W = .ok (.int .u8 S) W := by kernel_rfl

def missIf (ts : List Tm) (rs : List Rul) (r : Rul) : Nat := if allOk ts rs r = true then missOf ts rs r else 0

set_option maxRecDepth 8000 in
set_option maxHeartbeats 8000000 in
theorem gateMissing (B Br b : Nat) (ts : List Tm) (rs : List Rul) (r : Rul) (w : World) (hT : TmsIn w B ts) (hR : RulsIn w Br rs) (h : IntsIn w b r.verbs) (hs : r.sized) :
    Calls Tryd.prog 17 #[.slice (some ⟨B, 0, none⟩) ts.length CT, .slice (some ⟨Br, 0, none⟩) rs.length CR, .agg #[.slice (some ⟨b, 0, none⟩) r.verbs.length CV, .string r.kind, .string r.team, .string r.pre]] w fun e w' => e = .returned (.tuple #[.int .u8 (missIf ts rs r : Nat), .bool (allOk ts rs r)]) ∧ Below w.heap.size w w' := by
  have hl := hR.len
  have HM : Hid (∀ W, Below w.heap.size w W → TmsIn W B ts ∧ RulsIn W Br rs ∧ IntsIn W b r.verbs) := fun W hW => ⟨hT.later hW, hR.later hW, h.later hW⟩
  have HZ : Hid r.sized := hs
  obtain ⟨w1, hw1⟩ : ∃ w1, w1 = (w.alloc (.cells #[.slice (some ⟨b, 0, none⟩) r.verbs.length CV, .string r.kind, .string r.team, .string r.pre] 27)) := ⟨_, rfl⟩
  have HB1 : Hid (Below w.heap.size w w1) := by rw [hw1]; exact blw_alloc (Below.refl _ _) _
  have HX1 : Hid (Boxed w1 w.heap.size #[.slice (some ⟨b, 0, none⟩) r.verbs.length CV, .string r.kind, .string r.team, .string r.pre]) := by rw [hw1]; exact Boxed.new w _ 27
  obtain ⟨A, hA⟩ : ∃ A, A = allOk ts rs r := ⟨_, rfl⟩
  obtain ⟨Q, hQ⟩ : ∃ Q, Q = missIf ts rs r := ⟨_, rfl⟩
  have HQ : Hid (Q = if A = true then missOf ts rs r else 0) := by show Q = _; rw [hQ, hA]; rfl
  rw [← hA, ← hQ]
  have HA : Hid (A = (teamsOk ts && ruleOk r && rs.all ruleOk)) := hA
  clear hT hR h hs hA hQ
  go_enter Tryd.func17, Tryd.ntmps17
  go_wp2_with fail
  rw [← hw1]
  clear hw1
  refine (gateGivesOf B Br ts rs w1 (HM.out _ HB1.out).1 (HM.out _ HB1.out).2.1).mono ?_
  rintro e w2 ⟨⟨a, n, c, rfl, hgv⟩, hb2⟩
  have HB2 : Hid (Below w.heap.size w w2) := blw_trans HB1.out hb2
  have HX2 : Hid (Boxed w2 w.heap.size #[.slice (some ⟨b, 0, none⟩) r.verbs.length CV, .string r.kind, .string r.team, .string r.pre]) := HX1.out.later hb2
  obtain ⟨G, hG⟩ : ∃ G, G = (teamsOk ts && rs.all ruleOk) := ⟨_, rfl⟩
  rw [← hG] at hgv ⊢
  have HGV : Hid (G = true → n = rs.length ∧ GivesAt CT w2 (.slice a n c) B ts rs) := hgv
  have HG : Hid (G = (teamsOk ts && rs.all ruleOk)) := hG
  clear hb2 HB1 HX1 hgv hG
  cases hGc : G
  · have HE : Hid (A = false ∧ Q = 0) := by
      have : A = false := by
        have g := HG.out
        rw [hGc] at g
        rw [HA.out]
        cases h1 : teamsOk ts <;> cases h2 : rs.all ruleOk <;> rw [h1, h2] at g <;> simp at g ⊢
      exact ⟨this, by rw [HQ.out, this]; rfl⟩
    clear hGc
    go_wp2
    refine bodyPost_ret (v := .tuple #[.int .u8 0, .bool false]) (by simp [results, Tryd.results17, go_sem]) rfl ⟨?_, HB2.out⟩
    exact ret_miss (by rw [HE.out.2]; rfl) HE.out.1.symm
  have HGA : Hid (n = rs.length ∧ GivesAt CT w2 (.slice a n c) B ts rs) := HGV.out hGc
  have HAA : Hid (A = ruleOk r) := by
    show A = _
    have g := HG.out
    rw [hGc] at g
    have g2 := (Bool.and_eq_true _ _).mp g.symm
    rw [HA.out, g2.1, g2.2]; simp
  clear hGc HG HGV HA
  obtain ⟨hn, _⟩ := HGA.out
  subst hn
  have c0 : w2.cell? ⟨w.heap.size, 0, none⟩ = some (.slice (some ⟨b, 0, none⟩) r.verbs.length CV) := HX2.out.2 0
  have c1 : w2.cell? ⟨w.heap.size, 1, none⟩ = some (.string r.kind) := HX2.out.2 1
  have c2 : w2.cell? ⟨w.heap.size, 2, none⟩ = some (.string r.team) := HX2.out.2 2
  have c3 : w2.cell? ⟨w.heap.size, 3, none⟩ = some (.string r.pre) := HX2.out.2 3
  go_wp2_with fail
  refine (gateRuleOk b r w2 (HM.out _ HB2.out).2.2 HZ.out).mono ?_
  rintro e w3 ⟨rfl, hb3⟩
  have HB3 : Hid (Below w.heap.size w w3) := blw_trans HB2.out hb3
  have HX3 : Hid (Boxed w3 w.heap.size #[.slice (some ⟨b, 0, none⟩) r.verbs.length CV, .string r.kind, .string r.team, .string r.pre]) := HX2.out.later hb3
  have HG3 : Hid (GivesAt CT w3 (.slice a rs.length c) B ts rs) := HGA.out.2.later hb3
  clear hb3 HB2 HX2 HGA c0 c1 c2 c3
  cases hr : ruleOk r
  · have HE : Hid (A = false ∧ Q = 0) := by
      have : A = false := by rw [HAA.out, hr]
      exact ⟨this, by rw [HQ.out, this]; rfl⟩
    go_wp2
    refine bodyPost_ret (v := .tuple #[.int .u8 0, .bool false]) (by simp [results, Tryd.results17, go_sem]) rfl ⟨?_, HB3.out⟩
    exact ret_miss (by rw [HE.out.2]; rfl) HE.out.1.symm
  have HE : Hid (A = true ∧ Q = missOf ts rs r) := by
    have : A = true := by rw [HAA.out, hr]
    exact ⟨this, by rw [HQ.out, this]; rfl⟩
  clear hr HAA HQ
  have c0 : w3.cell? ⟨w.heap.size, 0, none⟩ = some (.slice (some ⟨b, 0, none⟩) r.verbs.length CV) := HX3.out.2 0
  have c1 : w3.cell? ⟨w.heap.size, 1, none⟩ = some (.string r.kind) := HX3.out.2 1
  have c2 : w3.cell? ⟨w.heap.size, 2, none⟩ = some (.string r.team) := HX3.out.2 2
  have c3 : w3.cell? ⟨w.heap.size, 3, none⟩ = some (.string r.pre) := HX3.out.2 3
  go_wp2_with fail
  refine (rightOf B b ts r w3 (HM.out _ HB3.out).2.2).mono ?_
  rintro e w4 ⟨rfl, hb4⟩
  have HB4 : Hid (Below w.heap.size w w4) := blw_trans HB3.out hb4
  have HX4 : Hid (Boxed w4 w.heap.size #[.slice (some ⟨b, 0, none⟩) r.verbs.length CV, .string r.kind, .string r.team, .string r.pre]) := HX3.out.later hb4
  obtain ⟨w5, hw5⟩ : ∃ w5, w5 = w4.alloc (.cells #[.int .i64 0, .string r.kind, .string r.team, .string r.pre] 32) := ⟨_, rfl⟩
  have hb5 : Below w4.heap.size w4 w5 := by rw [hw5]; exact blw_alloc (Below.refl _ _) _
  have HB5 : Hid (Below w.heap.size w w5) := blw_trans HB4.out hb5
  have HX5 : Hid (Boxed w5 w4.heap.size #[.int .i64 0, .string r.kind, .string r.team, .string r.pre]) := by rw [hw5]; exact Boxed.new w4 _ 32
  have HG5 : Hid (GivesAt CT w5 (.slice a rs.length c) B ts rs) := HG3.out.later (blw_trans hb4 hb5)
  clear hb4 hb5 HB3 HX3 HG3 c0 c1 c2 c3
  have c1 : w4.cell? ⟨w.heap.size, 1, none⟩ = some (.string r.kind) := HX4.out.2 1
  have c2 : w4.cell? ⟨w.heap.size, 2, none⟩ = some (.string r.team) := HX4.out.2 2
  have c3 : w4.cell? ⟨w.heap.size, 3, none⟩ = some (.string r.pre) := HX4.out.2 3
  have hfs : ∀ W : World, (Instr.field 60 (.agg #[.slice (some ⟨B, 0, none⟩) ts.length CT, .slice (some ⟨b, 0, none⟩) r.verbs.length CV, .string r.kind, .string r.team, .string r.pre, .int .u8 (setIf r.verbs : Nat)]) 2).run Tryd.prog W = .ok (.int .u8 (setIf r.verbs : Nat)) W := fun W => field_set _ _ _ _ _ _ W
  go_upto_region 6 with fail
  rw [← hw5]
  clear hw5 c1 c2 c3 HX4 hfs
  go_wp2
  go_loopw [10, 40] (fun m i wr => ∃ (k S : Nat), k ≤ rs.length ∧ i = .int .i64 k ∧ m = .int .u8 (S : Nat) ∧ S = missTo ts rs r k ∧ Below w5.heap.size w5 wr) (fun _ i _ => rs.length - (intOf i).toNat)
  case atStart => exact ⟨0, setIf r.verbs, Nat.zero_le _, rfl, rfl, rfl, Below.refl _ _⟩
  case round =>
    obtain ⟨k, S, hk, rfl, rfl, hS, hW⟩ := hrel
    have HS : Hid (S = missTo ts rs r k ∧ S < 64 ∧ Below w5.heap.size w5 wr) := ⟨hS, by rw [hS]; exact missTo_small _ _ _ _, hW⟩
    clear hS hW
    by_cases hlt : k < rs.length
    · have hg := HG5.out.later HS.out.2.2
      rcases hg with ⟨h0, _⟩ | ⟨g, c', hv, hgl, hga⟩
      · rw [h0] at hlt; exact absurd hlt (Nat.not_lt_zero k)
      injection hv with hv1 hv2 hv3
      subst hv1
      subst hv3
      obtain ⟨bq, CQ, hcell⟩ := hga k hlt
      obtain ⟨q, hq⟩ : ∃ q, q = rs.getD k Rul.none := ⟨_, rfl⟩
      rw [← hq] at hcell
      have hbx := HX5.out.later HS.out.2.2
      have HX : Hid (Calls Tryd.prog 31 #[.agg #[.slice (some ⟨B, 0, none⟩) ts.length CT, .slice (some ⟨bq, 0, none⟩) q.verbs.length CQ, .string q.kind, .string q.team, .string q.pre, .int .u8 (setIf q.verbs : Nat)], .agg #[.int .i64 0, .string r.kind, .string r.team, .string r.pre]] wr fun e w' => e = .returned (.int .u8 (giveN ts r q : Nat)) ∧ Below wr.heap.size wr w') := by
        refine (gateGives B bq (setIf q.verbs) ts q ⟨0, r.kind, r.team, r.pre⟩ wr (HM.out _ (blw_trans HB5.out HS.out.2.2)).1).mono ?_
        rintro e w' ⟨rfl, hb⟩
        exact ⟨Pl.ret_int (giveN_int ts r q), hb⟩
      have HN : Hid (minus S (giveN ts r q) = missTo ts rs r (k + 1)) := by show _ = _; rw [missTo_succ _ _ _ _ hlt, ← HS.out.1, hq]
      have p0 : wr.cell? ⟨w4.heap.size, 0, none⟩ = some (.int .i64 0) := hbx.2 0
      have p1 : wr.cell? ⟨w4.heap.size, 1, none⟩ = some (.string r.kind) := hbx.2 1
      have p2 : wr.cell? ⟨w4.heap.size, 2, none⟩ = some (.string r.team) := hbx.2 2
      have p3 : wr.cell? ⟨w4.heap.size, 3, none⟩ = some (.string r.pre) := hbx.2 3
      clear hq hga hbx hv2
      go_wp2_with fail
      refine HX.out.mono ?_
      rintro e w6 ⟨rfl, hb6⟩
      have HW6 : Hid (Below w5.heap.size w5 w6) := blw_trans HS.out.2.2 hb6
      clear hb6 p0 p1 p2 p3 hcell HX hgl
      go_wp2_with fail
      refine (gateWithout S (giveN ts r q) w6 HS.out.2.1 (giveN_small _ _ _)).mono ?_
      rintro e w7 ⟨rfl, rfl⟩
      go_wp2
      go_roundw
      case rel => exact ⟨k + 1, _, by omega, by go_num, rfl, HN.out, HW6.out⟩
      case measure => simp [intOf]; omega
    · have HN : Hid (S = Q) := by show S = Q; rw [HE.out.2, HS.out.1, missTo_all _ _ _ _ (by omega)]
      go_wp2
      refine bodyPost_ret (v := .tuple #[.int .u8 (S : Nat), .bool true]) (by simp [results, Tryd.results17, go_sem]) rfl ⟨?_, blw_trans HB5.out HS.out.2.2⟩
      exact ret_miss (by rw [HN.out]) HE.out.1.symm

end Go.Proofs.YtfmidkdpclfffaaDoor
