/-
  Sheets: the rules of a kind: the specification.
-/
import Derived.Great.BuildSlice
import Derived.Test.YtikacjpbnoihjaaERo
import Derived.Test.YtikacjpbnoihjaaEPu
namespace Go.Proofs.Ytikacjpbnoihjaa
open Go.RowKit Go.Deep

theorem Try.under_rules : Try.prog.underlying 49 = some (.slice 48) := by kernel_rfl
theorem Try.info_rule : (Try.prog.info? 48).map (fun i => (i.zero, i.size, i.bytes)) = some (some (.agg #[.string { data := #[] }, .slice none 0 0, .bool false, .slice none 0 0]), 4, 72) := by kernel_rfl
/-- A rule as data. -/
def ruD (r : Pl.Ru) : List Dt := [.s r.key, .row r.args.length (r.args.map .i), .b r.many, .row r.dflt.length (txD r.dflt)]
def rulesD (l : List Pl.Ru) : Dt := .row l.length (l.flatMap ruD)
theorem rawInts (W : World) : ∀ xs : List Int, Raw W (reps xs.length [.i]) (xs.map .i) (xs.map (.int .i64))
  | [] => .nil
  | x :: xs => by rw [List.length_cons, reps_succ]; exact .i x (rawInts W xs)
theorem rawArgs (W : World) (xs : List Int) (cs : Array Value) (hcs : cs.toList = xs.map (.int .i64)) (hl : xs.length ≤ 100) : Raw (W.alloc (.cells cs 3)) [.row 3 [.i]] [.row xs.length (xs.map .i)] [.slice (some ⟨W.heap.size, 0, none⟩) xs.length xs.length] := by
  refine .row _ _ W.heap.size 0 xs.length xs.length (xs.map (.int .i64)) (xs.map .i) (by simp) (by unfold maxLen; omega) ?_ (rawInts _ xs) .nil
  intro j v hv
  rw [Nat.zero_add]
  refine (World.cell?_alloc_at _ _ _ _ rfl).trans ?_
  rw [← hcs] at hv
  simpa using hv
/-- What a rule's making answers. -/
def OneA (r : Pl.Ru) (W : World) (e : Ending) (W' : World) : Prop := ∃ a1 c1 a3 n3 c3 F, e = .returned (.agg #[.string r.key, .slice a1 r.args.length c1, .bool r.many, .slice a3 n3 c3]) ∧ Rep W' false shSheetRule F (ruD r) [.string r.key, .slice a1 r.args.length c1, .bool r.many, .slice a3 n3 c3] ∧ F.Nodup ∧ (∀ b ∈ F, W.heap.size ≤ b) ∧ Below W.heap.size W W'
theorem oneA_of {r : Pl.Ru} {W : World} {o : Obj} {e : Ending} {W' : World} (h : Ans shSheetRule (ruD r) (W.alloc o) e W') : OneA r W e W' := by
  obtain ⟨c, F, he, hr, nd, lo, hb⟩ := h
  obtain ⟨F1, v1, F3, v3, hF, hc, r1, r3⟩ := repSheetRule hr
  subst hc
  obtain ⟨a1, c1, h1⟩ := r1.raw.len0
  obtain ⟨a3, c3, h3⟩ := r3.raw.len0
  subst h1; subst h3
  exact ⟨a1, c1, a3, _, c3, F, he, hr, nd, fun b hb' => by have := lo b hb'; simp at this; omega, blw_trans (blw_alloc (Below.refl _ _) _) hb⟩
theorem oneC (r : Pl.Ru) (s : ByteArray) (cs : Array Value) (hcs : cs.toList = r.args.map (.int .i64)) (W : World) (hs : s.size ≤ 1048576) (hn : r.args.length ≤ 100) (hm : r.many = false) (hd : Pl.splL s = r.dflt) :
    Calls Try.prog 37 #[.string r.key, .string s, .slice (some ⟨W.heap.size, 0, none⟩) r.args.length r.args.length] (W.alloc (.cells cs 3)) (OneA r W) := by
  refine (l38OneS r.key s (some ⟨W.heap.size, 0, none⟩) r.args.length r.args.length (r.args.map .i) _ hs (rawArgs W r.args cs hcs hn) (by omega)).mono ?_
  intro e w' h
  refine oneA_of ?_ (o := .cells cs 3)
  unfold ruD
  rw [hm, ← hd]
  exact h
theorem manyC (r : Pl.Ru) (cs : Array Value) (hcs : cs.toList = r.args.map (.int .i64)) (W : World) (hn : r.args.length ≤ 100) (hm : r.many = true) (hd : r.dflt = []) :
    Calls Try.prog 38 #[.string r.key, .slice (some ⟨W.heap.size, 0, none⟩) r.args.length r.args.length] (W.alloc (.cells cs 3)) (OneA r W) := by
  refine (l38ManyS r.key (some ⟨W.heap.size, 0, none⟩) r.args.length r.args.length (r.args.map .i) _ (rawArgs W r.args cs hcs hn) (by omega)).mono ?_
  intro e w' h
  refine oneA_of ?_ (o := .cells cs 3)
  unfold ruD
  rw [hm, hd]
  exact h
/-- Rules made so far, in memory of their own. -/
structure Acc (w W : World) (l : List Pl.Ru) (G : List Nat) (cs : List Value) : Prop where
  rep : Rep W false (reps l.length shSheetRule) G (l.flatMap ruD) cs
  nd : G.Nodup
  lo : ∀ b ∈ G, w.heap.size ≤ b
  bel : Below w.heap.size w W
theorem Acc.push {w W W' : World} {l : List Pl.Ru} {G F : List Nat} {cs c : List Value} {r : Pl.Ru} (h : Acc w W l G cs) (hr : Rep W' false shSheetRule F (ruD r) c) (nd : F.Nodup) (lo : ∀ b ∈ F, W.heap.size ≤ b) (hb : Below W.heap.size W W') : Acc w W' (l ++ [r]) (G ++ F) (cs ++ c) := by
  refine ⟨?_, nd_join h.nd nd (fun b hb => h.rep.lt b hb) lo, lo_join h.lo fun b hb => Nat.le_trans h.bel.size (lo b hb), blw_trans h.bel hb⟩
  rw [List.length_append, List.length_singleton, reps_snoc, List.flatMap_append, List.flatMap_singleton]
  exact (h.rep.later hb).app hr
theorem Acc.done {w W : World} {l : List Pl.Ru} {G : List Nat} {cs : List Value} (h : Acc w W l G cs) (ca : Array Value) (hca : ca.toList = cs) (hl : l.length ≤ 100) : AnsL [.row 48 shSheetRule] (rulesD l) w (.returned (.slice (some ⟨W.heap.size, 0, none⟩) l.length l.length)) (W.alloc (.cells ca 48)) := by
  have hb : Below W.heap.size W (W.alloc (.cells ca 48)) := blw_alloc (Below.refl _ _) _
  have hcl : cs.length = l.length * 4 := by rw [h.rep.len, reps_len]; rfl
  refine ⟨_, W.heap.size :: (G ++ []), rfl, .row 48 shSheetRule W.heap.size 0 l.length l.length 48 (l.length * 4) cs (l.flatMap ruD) G ?_ ?_ ?_ ?_ ?_ (h.rep.later hb) .nil, ?_, ?_, blw_trans h.bel hb⟩
  · exact OwnBlk.alloc W ca 48 _ (by rw [← Array.length_toList, hca, hcl])
  · show 0 + l.length * 4 ≤ l.length * 4; omega
  · intro h; cases h
  · exact ⟨by unfold maxLen; omega, Nat.le_refl _⟩
  · intro j v hv
    rw [Nat.zero_add]
    refine (World.cell?_alloc_at _ _ _ _ rfl).trans ?_
    rw [← hca] at hv
    simpa using hv
  · rw [List.append_nil, List.nodup_cons]
    exact ⟨fun e => by have := h.rep.lt _ e; omega, h.nd⟩
  · intro b hb'
    rw [List.append_nil] at hb'
    rcases List.mem_cons.1 hb' with rfl | q
    · exact h.bel.size
    · exact h.lo b q
theorem Acc.nil (w : World) : Acc w w [] [] [] := ⟨.nil, List.nodup_nil, by simp, Below.refl _ _⟩

set_option maxRecDepth 16000 in
set_option maxHeartbeats 16000000 in
theorem sheetRulesS (s : ByteArray) (w : World) :
    Calls Try.prog 18 #[.string s] w (AnsL [.row 48 shSheetRule] (rulesD (Pl.rulesOf s)) w) := by
  obtain ⟨i0, hi0, hz0, hz1, hz2⟩ := uinfo Try.info_rule
  have A0 := uh (Acc.nil w)
  cases hteam : (s.toList == [116, 101, 97, 109])
  rotate_left
  · have HR : Hid (Pl.rulesOf s = Pl.kTeamR) := by show _ = _; unfold Pl.rulesOf; rw [if_pos hteam]
    go_enter Try.func18, Try.ntmps18
    go_upto_region 3 with fail
    clear hteam
    go_wp2_with fail
    refine (oneC ⟨{ data := #[99, 111, 112, 105, 101, 115] }, [1], false, [{ data := #[49, 48, 48] }]⟩ ({ data := #[49, 48, 48] }) #[.int .i64 1] rfl w (by decide) (by decide) rfl Pl.spl_team_copies).mono ?_
    rintro e w1 ⟨a0, b0, c0, m0, d0, F0, rfl, r, nd, lo, hb⟩
    have A1 := uh (A0.out.push r nd lo hb)
    clear r nd lo hb A0
    go_wp2_with fail
    refine (oneC ⟨{ data := #[114, 111, 111, 109] }, [1], false, [{ data := #[49, 48, 48, 48] }]⟩ ({ data := #[49, 48, 48, 48] }) #[.int .i64 1] rfl w1 (by decide) (by decide) rfl Pl.spl_team_room).mono ?_
    rintro e w2 ⟨a1, b1, c1, m1, d1, F1, rfl, r, nd, lo, hb⟩
    have A2 := uh (A1.out.push r nd lo hb)
    clear r nd lo hb A1
    have HD := uh (A2.out.done #[.string ({ data := #[99, 111, 112, 105, 101, 115] }), .slice a0 1 b0, .bool false, .slice c0 m0 d0, .string ({ data := #[114, 111, 111, 109] }), .slice a1 1 b1, .bool false, .slice c1 m1 d1] rfl (by decide))
    go_wp2_with (refine wpList_buildSlice rfl 49 48 2 _ rfl #[.string ({ data := #[99, 111, 112, 105, 101, 115] }), .slice a0 1 b0, .bool false, .slice c0 m0 d0, .string ({ data := #[114, 111, 111, 109] }), .slice a1 1 b1, .bool false, .slice c1 m1 d1] i0 _ Try.under_rules hi0 hz0 (by rw [hz1]; decide) (by rw [hz1]; decide) (by rw [hz1]; kernel_rfl) ?_)
    go_ret
    rw [HR.out]
    exact HD.out
  cases hberth : (s.toList == [98, 101, 114, 116, 104])
  rotate_left
  · have HR : Hid (Pl.rulesOf s = Pl.kBerthR) := by show _ = _; unfold Pl.rulesOf; rw [if_neg (by rw [hteam]; decide), if_pos hberth]
    go_enter Try.func18, Try.ntmps18
    go_upto_region 5 with fail
    clear hteam hberth
    go_wp2_with fail
    refine (oneC ⟨{ data := #[122, 111, 110, 101] }, [3], false, [{ data := #[122] }]⟩ ({ data := #[122] }) #[.int .i64 3] rfl w (by decide) (by decide) rfl Pl.spl_berth_zone).mono ?_
    rintro e w1 ⟨a0, b0, c0, m0, d0, F0, rfl, r, nd, lo, hb⟩
    have A1 := uh (A0.out.push r nd lo hb)
    clear r nd lo hb A0
    go_wp2_with fail
    refine (oneC ⟨{ data := #[114, 111, 111, 109] }, [1], false, [{ data := #[49, 48, 48] }]⟩ ({ data := #[49, 48, 48] }) #[.int .i64 1] rfl w1 (by decide) (by decide) rfl Pl.spl_berth_room).mono ?_
    rintro e w2 ⟨a1, b1, c1, m1, d1, F1, rfl, r, nd, lo, hb⟩
    have A2 := uh (A1.out.push r nd lo hb)
    clear r nd lo hb A1
    go_wp2_with fail
    refine (oneC ⟨{ data := #[104, 111, 108, 100] }, [1], false, [{ data := #[49, 48, 48] }]⟩ ({ data := #[49, 48, 48] }) #[.int .i64 1] rfl w2 (by decide) (by decide) rfl Pl.spl_berth_hold).mono ?_
    rintro e w3 ⟨a2, b2, c2, m2, d2, F2, rfl, r, nd, lo, hb⟩
    have A3 := uh (A2.out.push r nd lo hb)
    clear r nd lo hb A2
    go_wp2_with fail
    refine (manyC ⟨{ data := #[109, 97, 114, 107] }, [3], true, []⟩ #[.int .i64 3] rfl w3 (by decide) rfl rfl).mono ?_
    rintro e w4 ⟨a3, b3, c3, m3, d3, F3, rfl, r, nd, lo, hb⟩
    have A4 := uh (A3.out.push r nd lo hb)
    clear r nd lo hb A3
    have HD := uh (A4.out.done #[.string ({ data := #[122, 111, 110, 101] }), .slice a0 1 b0, .bool false, .slice c0 m0 d0, .string ({ data := #[114, 111, 111, 109] }), .slice a1 1 b1, .bool false, .slice c1 m1 d1, .string ({ data := #[104, 111, 108, 100] }), .slice a2 1 b2, .bool false, .slice c2 m2 d2, .string ({ data := #[109, 97, 114, 107] }), .slice a3 1 b3, .bool true, .slice c3 m3 d3] rfl (by decide))
    go_wp2_with (refine wpList_buildSlice rfl 49 48 4 _ rfl #[.string ({ data := #[122, 111, 110, 101] }), .slice a0 1 b0, .bool false, .slice c0 m0 d0, .string ({ data := #[114, 111, 111, 109] }), .slice a1 1 b1, .bool false, .slice c1 m1 d1, .string ({ data := #[104, 111, 108, 100] }), .slice a2 1 b2, .bool false, .slice c2 m2 d2, .string ({ data := #[109, 97, 114, 107] }), .slice a3 1 b3, .bool true, .slice c3 m3 d3] i0 _ Try.under_rules hi0 hz0 (by rw [hz1]; decide) (by rw [hz1]; decide) (by rw [hz1]; kernel_rfl) ?_)
    go_ret
    rw [HR.out]
    exact HD.out
  cases hservice : (s.toList == [115, 101, 114, 118, 105, 99, 101])
  rotate_left
  · have HR : Hid (Pl.rulesOf s = Pl.kServiceR) := by show _ = _; unfold Pl.rulesOf; rw [if_neg (by rw [hteam]; decide), if_neg (by rw [hberth]; decide), if_pos hservice]
    go_enter Try.func18, Try.ntmps18
    go_upto_region 7 with fail
    clear hteam hberth hservice
    go_wp2_with fail
    refine (oneC ⟨{ data := #[116, 101, 97, 109] }, [3], false, [{ data := #[99, 111, 114, 101] }]⟩ ({ data := #[99, 111, 114, 101] }) #[.int .i64 3] rfl w (by decide) (by decide) rfl Pl.spl_service_team).mono ?_
    rintro e w1 ⟨a0, b0, c0, m0, d0, F0, rfl, r, nd, lo, hb⟩
    have A1 := uh (A0.out.push r nd lo hb)
    clear r nd lo hb A0
    go_wp2_with fail
    refine (oneC ⟨{ data := #[105, 109, 97, 103, 101] }, [1], false, [{ data := #[49] }]⟩ ({ data := #[49] }) #[.int .i64 1] rfl w1 (by decide) (by decide) rfl Pl.spl_service_image).mono ?_
    rintro e w2 ⟨a1, b1, c1, m1, d1, F1, rfl, r, nd, lo, hb⟩
    have A2 := uh (A1.out.push r nd lo hb)
    clear r nd lo hb A1
    go_wp2_with fail
    refine (oneC ⟨{ data := #[119, 97, 110, 116] }, [1], false, [{ data := #[49] }]⟩ ({ data := #[49] }) #[.int .i64 1] rfl w2 (by decide) (by decide) rfl Pl.spl_service_want).mono ?_
    rintro e w3 ⟨a2, b2, c2, m2, d2, F2, rfl, r, nd, lo, hb⟩
    have A3 := uh (A2.out.push r nd lo hb)
    clear r nd lo hb A2
    go_wp2_with fail
    refine (oneC ⟨{ data := #[100, 111, 119, 110] }, [1], false, [{ data := #[49] }]⟩ ({ data := #[49] }) #[.int .i64 1] rfl w3 (by decide) (by decide) rfl Pl.spl_service_down).mono ?_
    rintro e w4 ⟨a3, b3, c3, m3, d3, F3, rfl, r, nd, lo, hb⟩
    have A4 := uh (A3.out.push r nd lo hb)
    clear r nd lo hb A3
    go_wp2_with fail
    refine (oneC ⟨{ data := #[111, 118, 101, 114] }, [1], false, [{ data := #[48] }]⟩ ({ data := #[48] }) #[.int .i64 1] rfl w4 (by decide) (by decide) rfl Pl.spl_service_over).mono ?_
    rintro e w5 ⟨a4, b4, c4, m4, d4, F4, rfl, r, nd, lo, hb⟩
    have A5 := uh (A4.out.push r nd lo hb)
    clear r nd lo hb A4
    go_wp2_with fail
    refine (oneC ⟨{ data := #[110, 101, 101, 100, 115] }, [1, 1], false, [{ data := #[49] }, { data := #[49] }]⟩ ({ data := #[49, 32, 49] }) #[.int .i64 1, .int .i64 1] rfl w5 (by decide) (by decide) rfl Pl.spl_service_needs).mono ?_
    rintro e w6 ⟨a5, b5, c5, m5, d5, F5, rfl, r, nd, lo, hb⟩
    have A6 := uh (A5.out.push r nd lo hb)
    clear r nd lo hb A5
    go_wp2_with fail
    refine (oneC ⟨{ data := #[119, 104, 101, 114, 101] }, [4], false, [{ data := #[] }]⟩ ({ data := #[] }) #[.int .i64 4] rfl w6 (by decide) (by decide) rfl Pl.spl_service_where).mono ?_
    rintro e w7 ⟨a6, b6, c6, m6, d6, F6, rfl, r, nd, lo, hb⟩
    have A7 := uh (A6.out.push r nd lo hb)
    clear r nd lo hb A6
    go_wp2_with fail
    refine (manyC ⟨{ data := #[108, 105, 107, 101] }, [4, 2], true, []⟩ #[.int .i64 4, .int .i64 2] rfl w7 (by decide) rfl rfl).mono ?_
    rintro e w8 ⟨a7, b7, c7, m7, d7, F7, rfl, r, nd, lo, hb⟩
    have A8 := uh (A7.out.push r nd lo hb)
    clear r nd lo hb A7
    go_wp2_with fail
    refine (oneC ⟨{ data := #[97, 112, 97, 114, 116] }, [6], false, [{ data := #[110, 111, 110, 101] }]⟩ ({ data := #[110, 111, 110, 101] }) #[.int .i64 6] rfl w8 (by decide) (by decide) rfl Pl.spl_service_apart).mono ?_
    rintro e w9 ⟨a8, b8, c8, m8, d8, F8, rfl, r, nd, lo, hb⟩
    have A9 := uh (A8.out.push r nd lo hb)
    clear r nd lo hb A8
    go_wp2_with fail
    refine (oneC ⟨{ data := #[118, 111, 108, 117, 109, 101] }, [5], false, [{ data := #[110, 111] }]⟩ ({ data := #[110, 111] }) #[.int .i64 5] rfl w9 (by decide) (by decide) rfl Pl.spl_service_volume).mono ?_
    rintro e w10 ⟨a9, b9, c9, m9, d9, F9, rfl, r, nd, lo, hb⟩
    have A10 := uh (A9.out.push r nd lo hb)
    clear r nd lo hb A9
    go_wp2_with fail
    refine (oneC ⟨{ data := #[102, 111, 108, 108, 111, 119] }, [1, 1, 1], false, [{ data := #[48] }, { data := #[48] }, { data := #[48] }]⟩ ({ data := #[48, 32, 48, 32, 48] }) #[.int .i64 1, .int .i64 1, .int .i64 1] rfl w10 (by decide) (by decide) rfl Pl.spl_service_follow).mono ?_
    rintro e w11 ⟨a10, b10, c10, m10, d10, F10, rfl, r, nd, lo, hb⟩
    have A11 := uh (A10.out.push r nd lo hb)
    clear r nd lo hb A10
    go_wp2_with fail
    refine (oneC ⟨{ data := #[112, 97, 99, 101] }, [1, 1, 1], false, [{ data := #[48] }, { data := #[48] }, { data := #[48] }]⟩ ({ data := #[48, 32, 48, 32, 48] }) #[.int .i64 1, .int .i64 1, .int .i64 1] rfl w11 (by decide) (by decide) rfl Pl.spl_service_pace).mono ?_
    rintro e w12 ⟨a11, b11, c11, m11, d11, F11, rfl, r, nd, lo, hb⟩
    have A12 := uh (A11.out.push r nd lo hb)
    clear r nd lo hb A11
    have HD := uh (A12.out.done #[.string ({ data := #[116, 101, 97, 109] }), .slice a0 1 b0, .bool false, .slice c0 m0 d0, .string ({ data := #[105, 109, 97, 103, 101] }), .slice a1 1 b1, .bool false, .slice c1 m1 d1, .string ({ data := #[119, 97, 110, 116] }), .slice a2 1 b2, .bool false, .slice c2 m2 d2, .string ({ data := #[100, 111, 119, 110] }), .slice a3 1 b3, .bool false, .slice c3 m3 d3, .string ({ data := #[111, 118, 101, 114] }), .slice a4 1 b4, .bool false, .slice c4 m4 d4, .string ({ data := #[110, 101, 101, 100, 115] }), .slice a5 2 b5, .bool false, .slice c5 m5 d5, .string ({ data := #[119, 104, 101, 114, 101] }), .slice a6 1 b6, .bool false, .slice c6 m6 d6, .string ({ data := #[108, 105, 107, 101] }), .slice a7 2 b7, .bool true, .slice c7 m7 d7, .string ({ data := #[97, 112, 97, 114, 116] }), .slice a8 1 b8, .bool false, .slice c8 m8 d8, .string ({ data := #[118, 111, 108, 117, 109, 101] }), .slice a9 1 b9, .bool false, .slice c9 m9 d9, .string ({ data := #[102, 111, 108, 108, 111, 119] }), .slice a10 3 b10, .bool false, .slice c10 m10 d10, .string ({ data := #[112, 97, 99, 101] }), .slice a11 3 b11, .bool false, .slice c11 m11 d11] rfl (by decide))
    go_wp2_with (refine wpList_buildSlice rfl 49 48 12 _ rfl #[.string ({ data := #[116, 101, 97, 109] }), .slice a0 1 b0, .bool false, .slice c0 m0 d0, .string ({ data := #[105, 109, 97, 103, 101] }), .slice a1 1 b1, .bool false, .slice c1 m1 d1, .string ({ data := #[119, 97, 110, 116] }), .slice a2 1 b2, .bool false, .slice c2 m2 d2, .string ({ data := #[100, 111, 119, 110] }), .slice a3 1 b3, .bool false, .slice c3 m3 d3, .string ({ data := #[111, 118, 101, 114] }), .slice a4 1 b4, .bool false, .slice c4 m4 d4, .string ({ data := #[110, 101, 101, 100, 115] }), .slice a5 2 b5, .bool false, .slice c5 m5 d5, .string ({ data := #[119, 104, 101, 114, 101] }), .slice a6 1 b6, .bool false, .slice c6 m6 d6, .string ({ data := #[108, 105, 107, 101] }), .slice a7 2 b7, .bool true, .slice c7 m7 d7, .string ({ data := #[97, 112, 97, 114, 116] }), .slice a8 1 b8, .bool false, .slice c8 m8 d8, .string ({ data := #[118, 111, 108, 117, 109, 101] }), .slice a9 1 b9, .bool false, .slice c9 m9 d9, .string ({ data := #[102, 111, 108, 108, 111, 119] }), .slice a10 3 b10, .bool false, .slice c10 m10 d10, .string ({ data := #[112, 97, 99, 101] }), .slice a11 3 b11, .bool false, .slice c11 m11 d11] i0 _ Try.under_rules hi0 hz0 (by rw [hz1]; decide) (by rw [hz1]; decide) (by rw [hz1]; kernel_rfl) ?_)
    go_ret
    rw [HR.out]
    exact HD.out
  have HR : Hid (Pl.rulesOf s = []) := by show _ = _; unfold Pl.rulesOf; rw [if_neg (by rw [hteam]; decide), if_neg (by rw [hberth]; decide), if_neg (by rw [hservice]; decide)]
  go_enter Try.func18, Try.ntmps18
  go_wp2
  go_ret
  rw [HR.out]
  exact A0.out.done #[] rfl (by decide)

end Go.Proofs.Ytikacjpbnoihjaa
