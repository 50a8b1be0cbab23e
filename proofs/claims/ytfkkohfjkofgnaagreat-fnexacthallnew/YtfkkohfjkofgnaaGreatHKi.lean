/-
  A house that is ok: by the program.
-/
import Derived.Deep.Cut
import Derived.BigFrame
import Derived.Test.YtfkkohfjkofgnaaGreatWalkRC
import Derived.Test.YtfkkohfjkofgnaaGreatHPa
import Derived.Test.YtfkkohfjkofgnaaGreatWalkUD
namespace Go.Proofs.YtfkkohfjkofgnaaGreat
open Go.RowKit Go.Deep

variable {CT CR CV CQ CL : Nat}

/-- Two boxes behind a world. -/
theorem two_boxes (w : World) (cs ds : Array Value) (t u : TypeId) : w.heap.size + 1 < ((w.alloc (.cells cs t)).alloc (.cells ds u)).heap.size ∧ (∀ o, ((w.alloc (.cells cs t)).alloc (.cells ds u)).cell? ⟨w.heap.size, o, none⟩ = cs[o]?) ∧ (∀ o, ((w.alloc (.cells cs t)).alloc (.cells ds u)).cell? ⟨w.heap.size + 1, o, none⟩ = ds[o]?) := by
  refine ⟨by simp, fun o => by simp, fun o => by simp⟩

theorem carry {w w3 : World} {a : Nat} {cs ds : Array Value} (h : a + 1 < w.heap.size ∧ (∀ o, w.cell? ⟨a, o, none⟩ = cs[o]?) ∧ (∀ o, w.cell? ⟨a + 1, o, none⟩ = ds[o]?)) (hb : Below w.heap.size w w3) :
    a + 1 < w3.heap.size ∧ (∀ o, w3.cell? ⟨a, o, none⟩ = cs[o]?) ∧ (∀ o, w3.cell? ⟨a + 1, o, none⟩ = ds[o]?) :=
  ⟨Nat.lt_of_lt_of_le h.1 hb.size, fun o => (hb.cell (p := ⟨a, o, none⟩) (by have := h.1; show a < w.heap.size; omega)).trans (h.2.1 o), fun o => (hb.cell (p := ⟨a + 1, o, none⟩) h.1).trans (h.2.2 o)⟩

end Go.Proofs.YtfkkohfjkofgnaaGreat

namespace Go.Proofs.YtfkkohfjkofgnaaGreat
open Go.RowKit Go.Deep

variable {CT CR CV CQ CL : Nat}

set_option maxHeartbeats 8000000 in
theorem gateRuleOk (b : Nat) (r : Rul) (w : World) (h : IntsIn w b r.verbs) (hs : r.sized) :
    Calls Tryz.prog 49 #[.agg #[.slice (some ⟨b, 0, none⟩) r.verbs.length CV, .string r.kind, .string r.team, .string r.pre]] w fun e w' => e = .returned (.bool (ruleOk r)) ∧ Below w.heap.size w w' := by
  have HZ : Hid (r.kind.size ≤ maxLen ∧ r.team.size ≤ maxLen ∧ r.pre.size ≤ maxLen) := hs
  have HB : Hid (Below w.heap.size w (w.alloc (.cells #[.slice (some ⟨b, 0, none⟩) r.verbs.length CV, .string r.kind, .string r.team, .string r.pre] 72))) := blw_alloc (Below.refl _ _) _
  have HX : Hid (Calls Tryz.prog 77 #[.slice (some ⟨b, 0, none⟩) r.verbs.length CV] (w.alloc (.cells #[.slice (some ⟨b, 0, none⟩) r.verbs.length CV, .string r.kind, .string r.team, .string r.pre] 72)) fun e w' => e = .returned (.tuple #[.int .u8 (setIf r.verbs : Nat), .bool (verbsOk r.verbs)]) ∧ (w.alloc (.cells #[.slice (some ⟨b, 0, none⟩) r.verbs.length CV, .string r.kind, .string r.team, .string r.pre] 72)) = w') :=
    verbsOf_row b r.verbs _ (h.later HB.out)
  have hpz : r.pre.size ≤ maxLen := hs.2.2
  unfold maxLen at hpz
  obtain ⟨R, hR⟩ : ∃ R, R = ruleOk r := ⟨_, rfl⟩
  have HR : Hid (R = (verbsOk r.verbs && (r.kind.toList.isEmpty || Pl.nameOk r.kind) && (r.team.toList.isEmpty || Pl.nameOk r.team) && (decide (r.pre.size ≤ 16) && Pl.nameBytes r.pre))) := hR
  rw [← hR]
  clear h hs hR
  have d16 : (decide ((r.pre.size : Int) ≤ 16) = true ∧ decide (r.pre.size ≤ 16) = true) ∨ (decide ((r.pre.size : Int) ≤ 16) = false ∧ decide (r.pre.size ≤ 16) = false) := by
    by_cases h : r.pre.size ≤ 16
    · exact Or.inl ⟨by simp; omega, by simp [h]⟩
    · exact Or.inr ⟨by simp; omega, by simp [h]⟩
  obtain ⟨G, hG⟩ : ∃ G, G = decide (r.pre.size ≤ 16) := ⟨_, rfl⟩
  rw [← hG] at HR d16
  clear hG hpz
  go_enter Tryz.func49, Tryz.ntmps49
  go_wp2_with fail
  refine HX.out.mono ?_
  rintro e w2 ⟨rfl, rfl⟩
  clear HX
  cases hk : r.kind.toList.isEmpty
  · cases ht : r.team.toList.isEmpty
    · cases hv : verbsOk r.verbs
      · have HE : Hid (R = false) := by show R = false; rw [HR.out]; simp [hv]
        clear HR
        go_wp2_with (first | (go_at_call 48; refine (isName_any _ _ (by first | exact HZ.out.1 | exact HZ.out.2.1)).mono ?_; rintro e w' ⟨rfl, rfl⟩) | (go_at_call 76; refine (nameBytes_any _ _ HZ.out.2.2).mono ?_; rintro e w' ⟨rfl, rfl⟩))
        go_ret
        exact ⟨Pl.ret_bool HE.out.symm, HB.out⟩
      · cases hk2 : Pl.nameOk r.kind
        · have HE : Hid (R = false) := by show R = false; rw [HR.out]; simp [hk, hk2]
          clear HR
          go_wp2_with (first | (go_at_call 48; refine (isName_any _ _ (by first | exact HZ.out.1 | exact HZ.out.2.1)).mono ?_; rintro e w' ⟨rfl, rfl⟩) | (go_at_call 76; refine (nameBytes_any _ _ HZ.out.2.2).mono ?_; rintro e w' ⟨rfl, rfl⟩))
          go_ret
          exact ⟨Pl.ret_bool HE.out.symm, HB.out⟩
        · cases ht2 : Pl.nameOk r.team
          · have HE : Hid (R = false) := by show R = false; rw [HR.out]; simp [ht, ht2]
            clear HR
            go_wp2_with (first | (go_at_call 48; refine (isName_any _ _ (by first | exact HZ.out.1 | exact HZ.out.2.1)).mono ?_; rintro e w' ⟨rfl, rfl⟩) | (go_at_call 76; refine (nameBytes_any _ _ HZ.out.2.2).mono ?_; rintro e w' ⟨rfl, rfl⟩))
            go_ret
            exact ⟨Pl.ret_bool HE.out.symm, HB.out⟩
          · rcases d16 with ⟨h16, rfl⟩ | ⟨h16, rfl⟩
            · have HE : Hid (R = Pl.nameBytes r.pre) := by show R = Pl.nameBytes r.pre; rw [HR.out]; simp [hv, hk2, ht2]
              clear HR
              go_wp2_with (first | (go_at_call 48; refine (isName_any _ _ (by first | exact HZ.out.1 | exact HZ.out.2.1)).mono ?_; rintro e w' ⟨rfl, rfl⟩) | (go_at_call 76; refine (nameBytes_any _ _ HZ.out.2.2).mono ?_; rintro e w' ⟨rfl, rfl⟩))
              go_ret
              exact ⟨Pl.ret_bool HE.out.symm, HB.out⟩
            · have HE : Hid (R = false) := by show R = false; rw [HR.out]; simp [Bool.and_false]
              clear HR
              go_wp2_with (first | (go_at_call 48; refine (isName_any _ _ (by first | exact HZ.out.1 | exact HZ.out.2.1)).mono ?_; rintro e w' ⟨rfl, rfl⟩) | (go_at_call 76; refine (nameBytes_any _ _ HZ.out.2.2).mono ?_; rintro e w' ⟨rfl, rfl⟩))
              go_ret
              exact ⟨Pl.ret_bool HE.out.symm, HB.out⟩
    · cases hv : verbsOk r.verbs
      · have HE : Hid (R = false) := by show R = false; rw [HR.out]; simp [hv]
        clear HR
        go_wp2_with (first | (go_at_call 48; refine (isName_any _ _ (by first | exact HZ.out.1 | exact HZ.out.2.1)).mono ?_; rintro e w' ⟨rfl, rfl⟩) | (go_at_call 76; refine (nameBytes_any _ _ HZ.out.2.2).mono ?_; rintro e w' ⟨rfl, rfl⟩))
        go_ret
        exact ⟨Pl.ret_bool HE.out.symm, HB.out⟩
      · cases hk2 : Pl.nameOk r.kind
        · have HE : Hid (R = false) := by show R = false; rw [HR.out]; simp [hk, hk2]
          clear HR
          go_wp2_with (first | (go_at_call 48; refine (isName_any _ _ (by first | exact HZ.out.1 | exact HZ.out.2.1)).mono ?_; rintro e w' ⟨rfl, rfl⟩) | (go_at_call 76; refine (nameBytes_any _ _ HZ.out.2.2).mono ?_; rintro e w' ⟨rfl, rfl⟩))
          go_ret
          exact ⟨Pl.ret_bool HE.out.symm, HB.out⟩
        · rcases d16 with ⟨h16, rfl⟩ | ⟨h16, rfl⟩
          · have HE : Hid (R = Pl.nameBytes r.pre) := by show R = Pl.nameBytes r.pre; rw [HR.out]; simp [hv, ht, hk2]
            clear HR
            go_wp2_with (first | (go_at_call 48; refine (isName_any _ _ (by first | exact HZ.out.1 | exact HZ.out.2.1)).mono ?_; rintro e w' ⟨rfl, rfl⟩) | (go_at_call 76; refine (nameBytes_any _ _ HZ.out.2.2).mono ?_; rintro e w' ⟨rfl, rfl⟩))
            go_ret
            exact ⟨Pl.ret_bool HE.out.symm, HB.out⟩
          · have HE : Hid (R = false) := by show R = false; rw [HR.out]; simp [Bool.and_false]
            clear HR
            go_wp2_with (first | (go_at_call 48; refine (isName_any _ _ (by first | exact HZ.out.1 | exact HZ.out.2.1)).mono ?_; rintro e w' ⟨rfl, rfl⟩) | (go_at_call 76; refine (nameBytes_any _ _ HZ.out.2.2).mono ?_; rintro e w' ⟨rfl, rfl⟩))
            go_ret
            exact ⟨Pl.ret_bool HE.out.symm, HB.out⟩
  · cases ht : r.team.toList.isEmpty
    · cases hv : verbsOk r.verbs
      · have HE : Hid (R = false) := by show R = false; rw [HR.out]; simp [hv]
        clear HR
        go_wp2_with (first | (go_at_call 48; refine (isName_any _ _ (by first | exact HZ.out.1 | exact HZ.out.2.1)).mono ?_; rintro e w' ⟨rfl, rfl⟩) | (go_at_call 76; refine (nameBytes_any _ _ HZ.out.2.2).mono ?_; rintro e w' ⟨rfl, rfl⟩))
        go_ret
        exact ⟨Pl.ret_bool HE.out.symm, HB.out⟩
      · cases ht2 : Pl.nameOk r.team
        · have HE : Hid (R = false) := by show R = false; rw [HR.out]; simp [ht, ht2]
          clear HR
          go_wp2_with (first | (go_at_call 48; refine (isName_any _ _ (by first | exact HZ.out.1 | exact HZ.out.2.1)).mono ?_; rintro e w' ⟨rfl, rfl⟩) | (go_at_call 76; refine (nameBytes_any _ _ HZ.out.2.2).mono ?_; rintro e w' ⟨rfl, rfl⟩))
          go_ret
          exact ⟨Pl.ret_bool HE.out.symm, HB.out⟩
        · rcases d16 with ⟨h16, rfl⟩ | ⟨h16, rfl⟩
          · have HE : Hid (R = Pl.nameBytes r.pre) := by show R = Pl.nameBytes r.pre; rw [HR.out]; simp [hv, hk, ht2]
            clear HR
            go_wp2_with (first | (go_at_call 48; refine (isName_any _ _ (by first | exact HZ.out.1 | exact HZ.out.2.1)).mono ?_; rintro e w' ⟨rfl, rfl⟩) | (go_at_call 76; refine (nameBytes_any _ _ HZ.out.2.2).mono ?_; rintro e w' ⟨rfl, rfl⟩))
            go_ret
            exact ⟨Pl.ret_bool HE.out.symm, HB.out⟩
          · have HE : Hid (R = false) := by show R = false; rw [HR.out]; simp [Bool.and_false]
            clear HR
            go_wp2_with (first | (go_at_call 48; refine (isName_any _ _ (by first | exact HZ.out.1 | exact HZ.out.2.1)).mono ?_; rintro e w' ⟨rfl, rfl⟩) | (go_at_call 76; refine (nameBytes_any _ _ HZ.out.2.2).mono ?_; rintro e w' ⟨rfl, rfl⟩))
            go_ret
            exact ⟨Pl.ret_bool HE.out.symm, HB.out⟩
    · cases hv : verbsOk r.verbs
      · have HE : Hid (R = false) := by show R = false; rw [HR.out]; simp [hv]
        clear HR
        go_wp2_with (first | (go_at_call 48; refine (isName_any _ _ (by first | exact HZ.out.1 | exact HZ.out.2.1)).mono ?_; rintro e w' ⟨rfl, rfl⟩) | (go_at_call 76; refine (nameBytes_any _ _ HZ.out.2.2).mono ?_; rintro e w' ⟨rfl, rfl⟩))
        go_ret
        exact ⟨Pl.ret_bool HE.out.symm, HB.out⟩
      · rcases d16 with ⟨h16, rfl⟩ | ⟨h16, rfl⟩
        · have HE : Hid (R = Pl.nameBytes r.pre) := by show R = Pl.nameBytes r.pre; rw [HR.out]; simp [hv, hk, ht]
          clear HR
          go_wp2_with (first | (go_at_call 48; refine (isName_any _ _ (by first | exact HZ.out.1 | exact HZ.out.2.1)).mono ?_; rintro e w' ⟨rfl, rfl⟩) | (go_at_call 76; refine (nameBytes_any _ _ HZ.out.2.2).mono ?_; rintro e w' ⟨rfl, rfl⟩))
          go_ret
          exact ⟨Pl.ret_bool HE.out.symm, HB.out⟩
        · have HE : Hid (R = false) := by show R = false; rw [HR.out]; simp [Bool.and_false]
          clear HR
          go_wp2_with (first | (go_at_call 48; refine (isName_any _ _ (by first | exact HZ.out.1 | exact HZ.out.2.1)).mono ?_; rintro e w' ⟨rfl, rfl⟩) | (go_at_call 76; refine (nameBytes_any _ _ HZ.out.2.2).mono ?_; rintro e w' ⟨rfl, rfl⟩))
          go_ret
          exact ⟨Pl.ret_bool HE.out.symm, HB.out⟩

end Go.Proofs.YtfkkohfjkofgnaaGreat

namespace Go.Proofs.YtfkkohfjkofgnaaGreat
open Go.RowKit Go.Deep


set_option maxRecDepth 8000 in
set_option maxHeartbeats 16000000 in
theorem hallHouseOkI (K : Hs) (p0 p1 : Nat) (w : World) (h : HsV w p0 p1 K) :
    Calls Tryz.prog 22 #[.agg #[.slice (some ⟨p0, 0, none⟩) K.tms.length K.tms.length, .slice (some ⟨p1, 0, none⟩) K.grs.length K.grs.length]] w fun e w' => e = .returned (.bool (houseOk K)) ∧ Below w.heap.size w w' := by
  have HH := uh h
  have hl0 := h.l0.len
  have hl1 := h.l1.len
  clear h
  obtain ⟨R, hR⟩ : ∃ R, R = houseOk K := ⟨_, rfl⟩
  have HR : Hid (R = (teamsOk K.tms && decide (K.grs.length ≤ 24) && allH (grantAt K.grs) K.grs.length)) := hR
  rw [← hR]
  clear hR
  obtain ⟨wa, hwa⟩ : ∃ wa, wa = w.alloc (.cells #[.slice (some ⟨p0, 0, none⟩) K.tms.length K.tms.length, .slice (some ⟨p1, 0, none⟩) K.grs.length K.grs.length] 30) := ⟨_, rfl⟩
  have HB : Hid (Below w.heap.size w wa) := by show Below _ _ _; rw [hwa]; exact blw_alloc (Below.refl _ _) _
  have HX : Hid (LBox wa w.heap.size [.slice (some ⟨p0, 0, none⟩) K.tms.length K.tms.length, .slice (some ⟨p1, 0, none⟩) K.grs.length K.grs.length]) := by show LBox _ _ _; rw [hwa]; exact LBox.new w #[.slice (some ⟨p0, 0, none⟩) K.tms.length K.tms.length, .slice (some ⟨p1, 0, none⟩) K.grs.length K.grs.length] _ _ rfl
  have HT := uh (teamsOkI (CT := K.tms.length) p0 K.tms wa (HH.out.l0.later HB.out))
  go_enter Tryz.func22, Tryz.ntmps22
  go_upto_region 1 with fail
  rw [← hwa]
  clear hwa
  have yz := HX.out.lt
  have y0 := HX.out.get 0 _ rfl
  go_wp2_with fail
  refine HT.out.mono ?_
  rintro e w1 ⟨rfl, hb⟩
  replace HB := uh (blw_trans HB.out hb)
  replace HX := uh (HX.out.later hb)
  replace yz := HX.out.lt
  replace y0 := HX.out.get 0 _ rfl
  have y1 := HX.out.get 1 _ rfl
  clear hb HT
  cases h0 : teamsOk K.tms
  · have HE : Hid (R = false) := by show R = _; rw [HR.out, h0]; rfl
    go_wp2
    go_ret
    exact ⟨Pl.ret_bool HE.out.symm, HB.out⟩
  by_cases h1 : (24 : Int) < (K.grs.length : Int)
  · have HE : Hid (R = false) := by show R = _; rw [HR.out, decide_eq_false (p := K.grs.length ≤ 24) (by omega), Bool.and_false]; rfl
    go_wp2
    go_ret
    exact ⟨Pl.ret_bool HE.out.symm, HB.out⟩
  have HR1 : Hid (R = allH (grantAt K.grs) K.grs.length) := by show R = _; rw [HR.out, h0, decide_eq_true (p := K.grs.length ≤ 24) (by omega)]; simp
  clear HR
  go_wp2_with fail
  clear y0 y1 yz h0
  go_loopw [18] (fun i wr => ∃ q : Nat, q ≤ K.grs.length ∧ i = .int .i64 q ∧ allH (grantAt K.grs) q = true ∧ LBox wr w.heap.size [.slice (some ⟨p0, 0, none⟩) K.tms.length K.tms.length, .slice (some ⟨p1, 0, none⟩) K.grs.length K.grs.length] ∧ Below w.heap.size w wr) (fun i _ => K.grs.length - (intOf i).toNat)
  case atStart => exact ⟨0, Nat.zero_le _, rfl, rfl, HX.out, HB.out⟩
  case round =>
    obtain ⟨q, hq, rfl, ha, hX, hW⟩ := hrel
    have HQ := uh ha
    have HB2 := uh hW
    have HX2 := uh hX
    clear ha hW hX HX HB
    have yz := HX2.out.lt
    have y1 := HX2.out.get 1 _ rfl
    by_cases hlt : q < K.grs.length
    · have H1 := uh (HH.out.l1.later HB2.out)
      obtain ⟨g, hg⟩ : ∃ g : Gn, g = K.grs.getD q Gn.none := ⟨_, rfl⟩
      obtain ⟨vb, hrg, hvI, hsz, hs1, hs2⟩ := H1.out.at_ q hlt
      rw [← hg] at hrg hvI hsz hs1 hs2
      have HP : Hid (grantAt K.grs q = ((g.num == (q : Int) + 1) && Pl.nameOk g.to_ && g.by_.toList.isEmpty && ruleOk g.rul)) := by show _ = _; rw [grantAt, ← hg, grantOk]
      obtain ⟨ve, hve⟩ : ∃ ve : List Value, ve = [.int .i64 g.num, .string g.to_, .string g.by_, .slice (some ⟨vb, 0, none⟩) g.rul.verbs.length g.rul.verbs.length, .string g.rul.kind, .string g.rul.team, .string g.rul.pre] := ⟨_, rfl⟩
      have hrv : wr.rangeAt p1 (q * 7) ve := by rw [hve]; exact hrg
      have HL : Hid (ve.length = 7) := by show _ = _; rw [hve]; rfl
      obtain ⟨y, hy⟩ : ∃ y, y = (wr.alloc (.cells #[.int .i64 0, .string { data := #[] }, .string { data := #[] }, .slice none 0 0, .string { data := #[] }, .string { data := #[] }, .string { data := #[] }] 74)).setCells wr.heap.size 0 ve := ⟨_, rfl⟩
      have hth := nv_there wr #[.int .i64 0, .string { data := #[] }, .string { data := #[] }, .slice none 0 0, .string { data := #[] }, .string { data := #[] }, .string { data := #[] }] 74 ve (by rw [HL.out]; rfl)
      have hone : ve.toArray.all Value.oneCell' = true := by rw [hve]; simp [Value.oneCell']
      have hsi : (Tryz.prog.info? 74).map (·.size) = some ve.toArray.size := by rw [List.size_toArray, HL.out]; kernel_rfl
      have HY : Hid (LBox y wr.heap.size [.int .i64 g.num, .string g.to_, .string g.by_, .slice (some ⟨vb, 0, none⟩) g.rul.verbs.length g.rul.verbs.length, .string g.rul.kind, .string g.rul.team, .string g.rul.pre]) := by show LBox _ _ _; rw [hy, ← hve]; exact nv_box wr #[.int .i64 0, .string { data := #[] }, .string { data := #[] }, .slice none 0 0, .string { data := #[] }, .string { data := #[] }, .string { data := #[] }] 74 ve (by rw [HL.out]; rfl)
      have hby : Below wr.heap.size wr y := by rw [hy]; exact nv_below wr #[.int .i64 0, .string { data := #[] }, .string { data := #[] }, .slice none 0 0, .string { data := #[] }, .string { data := #[] }, .string { data := #[] }] 74 ve
      have HB3 := uh (blw_trans HB2.out hby)
      have HX3 := uh (HX2.out.later hby)
      have HRC := uh (gateRuleOk (CV := g.rul.verbs.length) vb g.rul y (hvI.later hby) hsz)
      have HSZ : Hid (g.to_.size ≤ 1048576 ∧ g.by_.size ≤ 1048576) := ⟨hs1, hs2⟩
      have hpl := H1.out.lt
      clear hg hrg hvI hsz hs1 hs2 hve hby
      have hm0 : (0 : Int) ≤ (q : Int) := by omega
      have hm3 : (q : Int) < (K.grs.length : Int) := by omega
      go_upto_region 6 with (first | refine wpList_load_mid rfl 74 _ rfl p1 (q * 7) rfl ve _ hrv Tryz.underlying74 rfl (by rw [HL.out]; kernel_rfl) ?_ | refine wpList_store_mid rfl 74 _ _ rfl wr.heap.size 0 ve.toArray rfl rfl hth hsi hone ?_)
      first | rw [← hy] | (simp only [List.toList_toArray]; rw [← hy])
      clear hy hth hone hsi hrv yz y1 H1
      have hyl := HY.out.lt
      have e0 := HY.out.get 0 _ rfl
      have e1 := HY.out.get 1 _ rfl
      have e2 := HY.out.get 2 _ rfl
      have e3 := HY.out.get 3 _ rfl
      have e4 := HY.out.get 4 _ rfl
      have e5 := HY.out.get 5 _ rfl
      have e6 := HY.out.get 6 _ rfl
      cases hn : (g.num == (q : Int) + 1)
      · have hn2 : (g.num != (q : Int) + 1) = true := by rw [bne, hn]; rfl
        have HE : Hid (R = false) := by show R = _; rw [HR1.out, allH_false (k := q) (by rw [HP.out]; simp [hn]) _ hlt]
        go_wp2_with (first | (go_at_call 48; refine (isName_any _ _ (by have := HSZ.out.1; show _ ≤ 9223372036854775807; omega)).mono ?_; rintro e w' ⟨rfl, rfl⟩) | (go_at_call 49; refine HRC.out.mono ?_; rintro e w5 ⟨rfl, hb5⟩))
        go_ret
        exact ⟨Pl.ret_bool HE.out.symm, HB3.out⟩

      have hn2 : (g.num != (q : Int) + 1) = false := by rw [bne, hn]; rfl
      cases hnm : Pl.nameOk g.to_
      ·
        have HE : Hid (R = false) := by show R = _; rw [HR1.out, allH_false (k := q) (by rw [HP.out]; simp [hnm]) _ hlt]
        go_wp2_with (first | (go_at_call 48; refine (isName_any _ _ (by have := HSZ.out.1; show _ ≤ 9223372036854775807; omega)).mono ?_; rintro e w' ⟨rfl, rfl⟩) | (go_at_call 49; refine HRC.out.mono ?_; rintro e w5 ⟨rfl, hb5⟩))
        go_ret
        exact ⟨Pl.ret_bool HE.out.symm, HB3.out⟩

      cases hby : g.by_.toList.isEmpty
      · have hby2 : (g.by_.toList != []) = true := by rw [not_beq_empty, hby]; rfl
        have HE : Hid (R = false) := by show R = _; rw [HR1.out, allH_false (k := q) (by rw [HP.out]; simp [hby]) _ hlt]
        go_wp2_with (first | (go_at_call 48; refine (isName_any _ _ (by have := HSZ.out.1; show _ ≤ 9223372036854775807; omega)).mono ?_; rintro e w' ⟨rfl, rfl⟩) | (go_at_call 49; refine HRC.out.mono ?_; rintro e w5 ⟨rfl, hb5⟩))
        go_ret
        exact ⟨Pl.ret_bool HE.out.symm, HB3.out⟩

      have hby2 : (g.by_.toList != []) = false := by rw [not_beq_empty, hby]; rfl
      cases hru : ruleOk g.rul
      · rw [hru] at HRC
        have HE : Hid (R = false) := by show R = _; rw [HR1.out, allH_false (k := q) (by rw [HP.out]; simp [hru]) _ hlt]
        go_wp2_with (first | (go_at_call 48; refine (isName_any _ _ (by have := HSZ.out.1; show _ ≤ 9223372036854775807; omega)).mono ?_; rintro e w' ⟨rfl, rfl⟩) | (go_at_call 49; refine HRC.out.mono ?_; rintro e w5 ⟨rfl, hb5⟩))
        go_ret
        exact ⟨Pl.ret_bool HE.out.symm, blw_trans HB3.out hb5⟩

      rw [hru] at HRC
      have HN : Hid (allH (grantAt K.grs) (q + 1) = true) := by show (allH _ q && grantAt K.grs q) = true; rw [HQ.out, HP.out, hn, hnm, hby, hru]; rfl
      go_wp2_with (first | (go_at_call 48; refine (isName_any _ _ (by have := HSZ.out.1; show _ ≤ 9223372036854775807; omega)).mono ?_; rintro e w' ⟨rfl, rfl⟩) | (go_at_call 49; refine HRC.out.mono ?_; rintro e w5 ⟨rfl, hb5⟩))
      go_roundw
      case rel => exact ⟨q + 1, by omega, by go_num, HN.out, HX3.out.later hb5, blw_trans HB3.out hb5⟩
      case measure => simp [intOf]; omega
    obtain rfl : q = K.grs.length := by omega
    have HE : Hid (R = true) := by show R = _; rw [HR1.out, HQ.out]
    go_wp2
    go_ret
    exact ⟨Pl.ret_bool HE.out.symm, HB2.out⟩
end Go.Proofs.YtfkkohfjkofgnaaGreat
