/-
  Sheets: the table of kinds: the program.
-/
import Derived.Maps.Keyed
import Derived.Test.YtojcopamegmeeaaERu
namespace Go.Proofs.Ytojcopamegmeeaa
open Go.RowKit Go.Deep

/-- A value and a world that an operation leaves, told outright. -/
theorem krun {P : Program} {ops : Array Oper} {rest : List Oper} {o : Oper} {a : Act} {w : World} {Q : Exit → Act → World → Prop} (hg : o.guard = none) (k : Option Tmp) (hk : o.dst = k) (u : Value) (w' : World) (hr : (execOp a.eval o).run P w = .ok (.value u) w')
    (h : wpList P ops Q rest (a.put k u) w') : wpList P ops Q (o :: rest) a w := by
  subst hk
  refine wpList_plain hg fun K hK => ?_
  unfold Oper.wp
  rw [hr, Oper.upon_value]
  exact hK _ _ h
/-- A slice written out: where it lies told outright. -/
theorem kslice {P : Program} {ops : Array Oper} {rest : List Oper} {o : Oper} {a : Act} {w : World} {Q : Exit → Act → World → Prop} (hg : o.guard = none) (t e : TypeId) (n : Nat) (parts : Array (Nat × Operand)) (ho : o.op = .buildSlice t n parts) (N : Nat) (hN : w.heap.size = N) (k : Option Tmp) (hk : o.dst = k)
    (hu : P.underlying t = some (.slice e)) {z : Value} {m b : Nat} (hi : (P.info? e).map (fun i => (i.zero, i.size, i.bytes)) = some (some z, m, b)) (h1 : ¬ n * m > 2 ^ 24) (h2 : ¬ n * m = 0) (cells : Array Value)
    (hf : Instr.fill (fun i => some (i * m, m)) ((Array.range (n * m)).map (z.cells[· % z.cells.size]!)) (parts.map fun (i, x) => (i, a.eval x)).toList = some cells)
    (h : wpList P ops Q rest (a.put k (.slice (some ⟨N, 0, none⟩) n n)) (w.alloc (.cells cells e))) : wpList P ops Q (o :: rest) a w := by
  subst hN; subst hk
  obtain ⟨i0, hi0, hz0, hz1, _⟩ := uinfo hi
  subst hz1
  exact wpList_buildSlice hg t e n parts ho cells i0 z hu hi0 hz0 h1 h2 hf h
/-- A struct written out. -/
theorem kbuild {P : Program} {ops : Array Oper} {rest : List Oper} {o : Oper} {a : Act} {w : World} {Q : Exit → Act → World → Prop} (hg : o.guard = none) (t : TypeId) (parts : Array (Nat × Operand)) (ho : o.op = .build t parts) (k : Option Tmp) (hk : o.dst = k) (cells : Array Value) (hf : P.built t (parts.map fun (i, x) => (i, a.eval x)).toList = some cells)
    (h : wpList P ops Q rest (a.put k (.agg cells)) w) : wpList P ops Q (o :: rest) a w := by
  subst hk
  refine wpList_build hg t parts ho (by rw [hf]; rfl) ?_
  rw [hf]
  exact h
theorem kskip {P : Program} {ops : Array Oper} {rest : List Oper} {o : Oper} {a : Act} {w : World} {Q : Exit → Act → World → Prop} (hg : o.guard = none) (hd : o.dst = none) (w' : World) (hrun : (execOp a.eval o).run P w = .ok .skip w')
    (h : wpList P ops Q rest a w') : wpList P ops Q (o :: rest) a w := by
  refine wpList_plain hg fun K hK => ?_
  unfold Oper.wp
  rw [hrun]
  have e : a.put o.dst undef = a := by rw [hd]; rfl
  refine hK (a.put o.dst undef) _ ?_
  rw [e]; exact h
def kput (W : World) (mb : Nat) (o : Obj) : World := { W with heap := W.heap.setIfInBounds mb o }
theorem kput_size (W : World) (mb : Nat) (o : Obj) : (kput W mb o).heap.size = W.heap.size := by simp [kput]
theorem kput_at {W : World} {mb : Nat} (o : Obj) (h : mb < W.heap.size) : (kput W mb o).heap[mb]? = some o := by simp [kput, h]
theorem kput_other {W : World} {mb b : Nat} (o : Obj) (h : b ≠ mb) : (kput W mb o).heap[b]? = W.heap[b]? := by
  simp only [kput]
  rw [Array.getElem?_setIfInBounds, if_neg (fun e => h e.symm)]
theorem kput_marks {W : World} {mb : Nat} {es : Array MapEntry} {cl : Nat} (o : Obj) (h : W.heap[mb]? = some (.map es cl)) : Marks (fun b => b = mb) W (kput W mb o) :=
  ⟨rfl, rfl, rfl, by rw [kput_size]; exact Nat.le_refl _, fun p _ hn => kput_other o hn, fun b t m hO => by
    obtain ⟨cs, e, hm⟩ := hO
    have hne : b ≠ mb := fun e' => by subst e'; rw [h] at e; cases e
    exact ⟨cs, (kput_other o hne).trans e, hm⟩⟩
theorem Try.und_text : Try.prog.underlying 9 = some .string := by kernel_rfl
theorem Try.und_kinds : Try.prog.underlying 78 = some (.map 9 81) := by kernel_rfl
theorem Try.und_ints : Try.prog.underlying 71 = some (.slice 3) := by kernel_rfl
theorem Try.und_strs : Try.prog.underlying 67 = some (.slice 9) := by kernel_rfl
theorem check_text (W : World) (em : Bool) (k : ByteArray) : (Instr.checkKey em 10000 9 (.string k)).run Try.prog W = .ok () W := by
  show (Instr.checkKey em (9999 + 1) 9 (.string k)).run Try.prog W = .ok () W
  rw [Instr.checkKey]
  simp [Sem.run_bind, run_underlying Try.und_text, Result.andThen]
theorem find_text (W : World) (k : ByteArray) (es : List MapEntry) (r : Option (Nat × Value)) (h : Instr.findNow .string (.string k) es 0 = some r) :
    (Instr.findKey 9 (.string k) es).run Try.prog W = .ok r W := by
  simp [Instr.findKey, run_underlying Try.und_text, h, Result.andThen]
theorem ins_text {W : World} {mb : Nat} {es : Array MapEntry} {cl : Nat} (hb : W.heap[mb]? = some (.map es cl)) (k : ByteArray) (v : Value) (hf : Instr.findNow .string (.string k) es.toList 0 = some none) :
    (Instr.mapUpdate 78 (.map (some mb)) (.string k) v).run Try.prog W = .ok () (kput W mb (.map (es.push ⟨.string k, v, cl⟩) (cl + 1))) := by
  simp [Instr.mapUpdate, run_underlying Try.und_kinds, MapKept.run_getObj_map hb, check_text, find_text _ k es.toList none hf, MapKept.run_setObj_map _ hb, Result.andThen, kput]

theorem repInts (W : World) : ∀ xs : List Int, Rep W false (reps xs.length [.i]) [] (xs.map .i) (xs.map (.int .i64))
  | [] => .nil
  | x :: xs => by rw [List.length_cons, reps_succ]; exact .i x (repInts W xs)
theorem repTxs (W : World) : ∀ xs : List ByteArray, Rep W false (reps xs.length [.s]) [] (txD xs) (xs.map .string)
  | [] => .nil
  | x :: xs => by rw [List.length_cons, reps_succ]; exact .s x (repTxs W xs)
theorem intsMade (W : World) (xs : List Int) (ca : Array Value) (h : ca.toList = xs.map (.int .i64)) (hl : xs.length ≤ 100) : Rep (W.alloc (.cells ca 3)) false [.row 3 [.i]] [W.heap.size] [.row xs.length (xs.map .i)] [.slice (some ⟨W.heap.size, 0, none⟩) xs.length xs.length] := by
  refine Rep.row 3 [.i] W.heap.size 0 xs.length xs.length 3 xs.length (xs.map (.int .i64)) (xs.map .i) [] (OwnBlk.alloc W ca 3 _ (by rw [← Array.length_toList, h, List.length_map])) (by simp) (by intro h; cases h) ⟨by unfold maxLen; omega, Nat.le_refl _⟩ ?_ (repInts _ xs) .nil
  intro j v hv
  rw [Nat.zero_add]
  refine (World.cell?_alloc_at _ _ _ _ rfl).trans ?_
  rw [← h] at hv
  simpa using hv
theorem txsMade (W : World) (xs : List ByteArray) (ca : Array Value) (h : ca.toList = xs.map .string) (hl : xs.length ≤ 100) : Rep (W.alloc (.cells ca 9)) false [.row 9 [.s]] [W.heap.size] [.row xs.length (txD xs)] [.slice (some ⟨W.heap.size, 0, none⟩) xs.length xs.length] := by
  refine Rep.row 9 [.s] W.heap.size 0 xs.length xs.length 9 xs.length (xs.map .string) (txD xs) [] (OwnBlk.alloc W ca 9 _ (by rw [← Array.length_toList, h, List.length_map])) (by simp) (by intro h; cases h) ⟨by unfold maxLen; omega, Nat.le_refl _⟩ ?_ (repTxs _ xs) .nil
  intro j v hv
  rw [Nat.zero_add]
  refine (World.cell?_alloc_at _ _ _ _ rfl).trans ?_
  rw [← h] at hv
  simpa using hv
/-- A rule that was written down: its two lists are new. -/
theorem Acc.one {w W : World} {l : List Pl.Ru} {G : List Nat} {cs : List Value} (h : Acc w W l G cs) (r : Pl.Ru) (ca ct : Array Value) (h1 : ca.toList = r.args.map (.int .i64)) (h3 : ct.toList = r.dflt.map .string) (l1 : r.args.length ≤ 100) (l3 : r.dflt.length ≤ 100) (hm : r.many = false) :
    ∃ F, Acc w ((W.alloc (.cells ca 3)).alloc (.cells ct 9)) (l ++ [r]) F (cs ++ [.string r.key, .slice (some ⟨W.heap.size, 0, none⟩) r.args.length r.args.length, .bool false, .slice (some ⟨W.heap.size + 1, 0, none⟩) r.dflt.length r.dflt.length]) := by
  have k1 := (intsMade W r.args ca h1 l1).later (blw_alloc (Below.refl _ _) (.cells ct 9))
  have k3 := txsMade (W.alloc (.cells ca 3)) r.dflt ct h3 l3
  have hz : (W.alloc (.cells ca 3)).heap.size = W.heap.size + 1 := by simp
  rw [hz] at k3
  have k := repSheetRule_mk r.key k1 r.many k3
  rw [hm] at k
  refine ⟨_, h.push (F := [W.heap.size] ++ ([W.heap.size + 1] ++ [])) (r := r) ?_ ?_ ?_ (blw_alloc (blw_alloc (Below.refl _ _) _) _)⟩
  · unfold ruD; rw [hm]; exact k
  · simp
  · intro b hb; simp at hb; omega
theorem Acc.many {w W : World} {l : List Pl.Ru} {G : List Nat} {cs : List Value} (h : Acc w W l G cs) (r : Pl.Ru) (ca : Array Value) (h1 : ca.toList = r.args.map (.int .i64)) (h3 : r.dflt = []) (l1 : r.args.length ≤ 100) (hm : r.many = true) :
    ∃ F, Acc w (W.alloc (.cells ca 3)) (l ++ [r]) F (cs ++ [.string r.key, .slice (some ⟨W.heap.size, 0, none⟩) r.args.length r.args.length, .bool true, .slice none 0 0]) := by
  have k1 := intsMade W r.args ca h1 l1
  have k := repSheetRule_mk r.key k1 r.many (Rep.emp (w := W.alloc (.cells ca 3)) (tt := false) 9 [.s] none rfl .nil)
  rw [hm] at k
  refine ⟨_, h.push (F := [W.heap.size] ++ ([] ++ [])) (r := r) ?_ ?_ ?_ (blw_alloc (Below.refl _ _) _)⟩
  · unfold ruD; rw [hm, h3]; exact k
  · simp
  · intro b hb; simp at hb; omega
/-- Rules that lie there, in memory that came up behind w. -/
def Kp (w : World) (l : List Pl.Ru) (v : Value) (W : World) : Prop := ∃ F, Rep W false [.row 73 shSheetRule] F [rulesD l] [v] ∧ F.Nodup ∧ ∀ b ∈ F, w.heap.size ≤ b
theorem Kp.later {w W W' : World} {l : List Pl.Ru} {v : Value} (h : Kp w l v W) (hb : Below W.heap.size W W') : Kp w l v W' := by
  obtain ⟨F, r, n, o⟩ := h; exact ⟨F, r.later hb, n, o⟩
theorem Kp.mono {w w0 W : World} {l : List Pl.Ru} {v : Value} (h : Kp w l v W) (h0 : w0.heap.size ≤ w.heap.size) : Kp w0 l v W := by
  obtain ⟨F, r, n, o⟩ := h; exact ⟨F, r, n, fun b hb => Nat.le_trans h0 (o b hb)⟩
theorem Kp.put {w W : World} {l : List Pl.Ru} {v : Value} {mb : Nat} {es : Array MapEntry} {cl : Nat} (h : Kp w l v W) (o : Obj) (hm : W.heap[mb]? = some (.map es cl)) (hlt : mb < w.heap.size) : Kp w l v (kput W mb o) := by
  obtain ⟨F, r, n, q⟩ := h
  exact ⟨F, r.keep (kput_marks o hm) (fun b hb e => by have := q b hb; omega), n, q⟩
theorem Kp.ans {w0 w W : World} {l : List Pl.Ru} {v : Value} (h : Kp w0 l v W) (h0 : w.heap.size ≤ w0.heap.size) (hb : Below w.heap.size w W) : AnsL [.row 73 shSheetRule] (rulesD l) w (.returned v) W := by
  obtain ⟨F, r, n, q⟩ := h
  exact ⟨v, F, rfl, r, n, fun b hb' => Nat.le_trans h0 (q b hb'), hb⟩
theorem Kp.of {w : World} {l : List Pl.Ru} {v : Value} {W' : World} (h : AnsL [.row 73 shSheetRule] (rulesD l) w (.returned v) W') : Kp w l v W' := by
  obtain ⟨v', F, e, r, n, q, _⟩ := h
  injection e with e
  subst e
  exact ⟨F, r, n, q⟩
def KindsA (w : World) (e : Ending) (w' : World) : Prop := ∃ mb w0 vt vb vs, e = .returned (.map (some mb)) ∧ w'.heap[mb]? = some (.map #[⟨.string { data := #[116, 101, 97, 109] }, .agg #[vt], 0⟩, ⟨.string { data := #[98, 101, 114, 116, 104] }, .agg #[vb], 1⟩, ⟨.string { data := #[115, 101, 114, 118, 105, 99, 101] }, .agg #[vs], 2⟩] 3) ∧ w.heap.size ≤ w0.heap.size ∧ Kp w0 Pl.kTeamR vt w' ∧ Kp w0 Pl.kBerthR vb w' ∧ Kp w0 Pl.kServiceR vs w' ∧ Below w.heap.size w w'

set_option maxRecDepth 16000 in
set_option maxHeartbeats 16000000 in
theorem sheetKindsI (w : World) : Calls Try.prog 37 #[] w (KindsA w) := by
  have HB := uh (Below.refl w.heap.size w)
  go_enter Try.func37, Try.ntmps37
  go_upto_region 1 with fail
  refine wp_region_lit ?_
  refine krun rfl _ rfl (.map (some w.heap.size)) (w.alloc (.map #[] 0)) (by simp [execOp, go_sem, run_makeMap]) ?_
  simp only [Act.put, List.setIfInBounds_toArray, List.set_cons_zero, List.set_cons_succ]
  obtain ⟨w0, hw0⟩ : ∃ x, x = w.alloc (.map #[] 0) := ⟨_, rfl⟩
  rw [← hw0]
  have HM : Hid (w0.heap[w.heap.size]? = some (.map #[] 0)) := by rw [hw0]; exact heap_alloc_new w _
  have HZ : Hid (w0.heap.size = w.heap.size + 1) := by show _ = _; rw [hw0]; simp
  replace HB : Hid (Below w.heap.size w w0) := by rw [hw0]; exact blw_alloc (Below.refl _ _) _
  have HA : Hid (Acc w0 w0 [] [] []) := Acc.nil w0
  have HQ : Hid (w0.heap.size ≤ w0.heap.size) := Nat.le_refl _
  clear hw0
  refine kslice rfl 71 3 1 _ rfl w0.heap.size rfl _ rfl Try.und_ints Try.info_int (by decide) (by decide) #[.int .i64 1] (by kernel_rfl) ?_
  refine kslice rfl 67 9 1 _ rfl (w0.heap.size + 1) (by simp) _ rfl Try.und_strs Try.info_text (by decide) (by decide) #[.string { data := #[49, 48, 48] }] (by kernel_rfl) ?_
  refine kbuild rfl 73 _ rfl _ rfl #[.string { data := #[99, 111, 112, 105, 101, 115] }, .slice (some ⟨w0.heap.size, 0, none⟩) 1 1, .bool false, .slice (some ⟨w0.heap.size + 1, 0, none⟩) 1 1] (by kernel_rfl) ?_
  simp only [Act.put, List.setIfInBounds_toArray, List.set_cons_zero, List.set_cons_succ]
  obtain ⟨w1, hw1⟩ : ∃ x, x = (w0.alloc (.cells #[.int .i64 1] 3)).alloc (.cells #[.string { data := #[49, 48, 48] }] 9) := ⟨_, rfl⟩
  rw [← hw1]
  have HX : Hid (Below w0.heap.size w0 w1) := by rw [hw1]; exact blw_alloc (blw_alloc (Below.refl _ _) _) _
  obtain ⟨G, hG⟩ := HA.out.one ⟨{ data := #[99, 111, 112, 105, 101, 115] }, [1], false, [{ data := #[49, 48, 48] }]⟩ #[.int .i64 1] #[.string { data := #[49, 48, 48] }] rfl rfl (by decide) (by decide) rfl
  rw [← hw1] at hG
  replace HA := uh hG
  replace HB := uh (blw_trans HB.out HX.out)
  replace HM := uh ((HX.out.block _ (Array.getElem?_eq_some_iff.1 HM.out).1).trans HM.out)
  clear hG HX hw1
  refine kslice rfl 71 3 1 _ rfl w1.heap.size rfl _ rfl Try.und_ints Try.info_int (by decide) (by decide) #[.int .i64 1] (by kernel_rfl) ?_
  refine kslice rfl 67 9 1 _ rfl (w1.heap.size + 1) (by simp) _ rfl Try.und_strs Try.info_text (by decide) (by decide) #[.string { data := #[49, 48, 48, 48] }] (by kernel_rfl) ?_
  refine kbuild rfl 73 _ rfl _ rfl #[.string { data := #[114, 111, 111, 109] }, .slice (some ⟨w1.heap.size, 0, none⟩) 1 1, .bool false, .slice (some ⟨w1.heap.size + 1, 0, none⟩) 1 1] (by kernel_rfl) ?_
  simp only [Act.put, List.setIfInBounds_toArray, List.set_cons_zero, List.set_cons_succ]
  obtain ⟨w2, hw2⟩ : ∃ x, x = (w1.alloc (.cells #[.int .i64 1] 3)).alloc (.cells #[.string { data := #[49, 48, 48, 48] }] 9) := ⟨_, rfl⟩
  rw [← hw2]
  have HX : Hid (Below w1.heap.size w1 w2) := by rw [hw2]; exact blw_alloc (blw_alloc (Below.refl _ _) _) _
  obtain ⟨G, hG⟩ := HA.out.one ⟨{ data := #[114, 111, 111, 109] }, [1], false, [{ data := #[49, 48, 48, 48] }]⟩ #[.int .i64 1] #[.string { data := #[49, 48, 48, 48] }] rfl rfl (by decide) (by decide) rfl
  rw [← hw2] at hG
  replace HA := uh hG
  replace HB := uh (blw_trans HB.out HX.out)
  replace HM := uh ((HX.out.block _ (Array.getElem?_eq_some_iff.1 HM.out).1).trans HM.out)
  clear hG HX hw2
  have HD := uh (Kp.of (HA.out.done #[.string { data := #[99, 111, 112, 105, 101, 115] }, .slice (some ⟨w0.heap.size, 0, none⟩) 1 1, .bool false, .slice (some ⟨w0.heap.size + 1, 0, none⟩) 1 1, .string { data := #[114, 111, 111, 109] }, .slice (some ⟨w1.heap.size, 0, none⟩) 1 1, .bool false, .slice (some ⟨w1.heap.size + 1, 0, none⟩) 1 1] rfl (by decide)))
  refine kslice rfl 62 73 2 _ rfl w2.heap.size rfl _ rfl Try.under_rules Try.info_rule (by decide) (by decide) #[.string { data := #[99, 111, 112, 105, 101, 115] }, .slice (some ⟨w0.heap.size, 0, none⟩) 1 1, .bool false, .slice (some ⟨w0.heap.size + 1, 0, none⟩) 1 1, .string { data := #[114, 111, 111, 109] }, .slice (some ⟨w1.heap.size, 0, none⟩) 1 1, .bool false, .slice (some ⟨w1.heap.size + 1, 0, none⟩) 1 1] (by kernel_rfl) ?_
  refine kbuild rfl 81 _ rfl _ rfl #[.slice (some ⟨w2.heap.size, 0, none⟩) 2 2] (by kernel_rfl) ?_
  obtain ⟨w3, hw3⟩ : ∃ x, x = w2.alloc (.cells #[.string { data := #[99, 111, 112, 105, 101, 115] }, .slice (some ⟨w0.heap.size, 0, none⟩) 1 1, .bool false, .slice (some ⟨w0.heap.size + 1, 0, none⟩) 1 1, .string { data := #[114, 111, 111, 109] }, .slice (some ⟨w1.heap.size, 0, none⟩) 1 1, .bool false, .slice (some ⟨w1.heap.size + 1, 0, none⟩) 1 1] 73) := ⟨_, rfl⟩
  rw [← hw3]
  rw [← hw3] at HD
  have HX : Hid (Below w2.heap.size w2 w3) := by rw [hw3]; exact blw_alloc (Below.refl _ _) _
  replace HB := uh (blw_trans HB.out HX.out)
  replace HM := uh ((HX.out.block _ (Array.getElem?_eq_some_iff.1 HM.out).1).trans HM.out)
  obtain ⟨v0, hv0⟩ : ∃ x, x = Value.slice (some ⟨w2.heap.size, 0, none⟩) 2 2 := ⟨_, rfl⟩
  replace HD : Hid (Kp w0 Pl.kTeamR v0 w3) := by rw [hv0]; exact HD.out.mono HQ.out
  have HK0 := HD
  rw [← hv0]
  simp only [Act.put, List.setIfInBounds_toArray, List.set_cons_zero, List.set_cons_succ]
  clear HX HD hw3 hv0 HA HQ
  have hi := ins_text HM.out ({ data := #[116, 101, 97, 109] }) (.agg #[v0]) rfl
  refine kskip rfl rfl (kput w3 w.heap.size (.map #[⟨.string { data := #[116, 101, 97, 109] }, .agg #[v0], 0⟩] 1)) (by simp [execOp, go_sem, hi]) ?_
  obtain ⟨w4, hw4⟩ : ∃ x, x = kput w3 w.heap.size (.map #[⟨.string { data := #[116, 101, 97, 109] }, .agg #[v0], 0⟩] 1) := ⟨_, rfl⟩
  rw [← hw4]
  have HP : Hid (Marks (fun b => b = w.heap.size) w3 w4) := by rw [hw4]; exact kput_marks _ HM.out
  replace HB := uh (HP.out.below (fun p e => by omega) HB.out)
  replace HK0 : Hid (Kp w0 Pl.kTeamR v0 w4) := by rw [hw4]; exact HK0.out.put _ HM.out (by have := HZ.out; omega)
  replace HM : Hid (w4.heap[w.heap.size]? = some (.map #[⟨.string { data := #[116, 101, 97, 109] }, .agg #[v0], 0⟩] 1)) := by rw [hw4]; exact kput_at _ (Array.getElem?_eq_some_iff.1 HM.out).1
  clear HP hw4 hi
  have HA : Hid (Acc w4 w4 [] [] []) := Acc.nil w4
  have HQ : Hid (w0.heap.size ≤ w4.heap.size) := by have := (Array.getElem?_eq_some_iff.1 HM.out).1; have := HZ.out; show _ ≤ _; omega
  refine kslice rfl 71 3 1 _ rfl w4.heap.size rfl _ rfl Try.und_ints Try.info_int (by decide) (by decide) #[.int .i64 3] (by kernel_rfl) ?_
  refine kslice rfl 67 9 1 _ rfl (w4.heap.size + 1) (by simp) _ rfl Try.und_strs Try.info_text (by decide) (by decide) #[.string { data := #[122] }] (by kernel_rfl) ?_
  refine kbuild rfl 73 _ rfl _ rfl #[.string { data := #[122, 111, 110, 101] }, .slice (some ⟨w4.heap.size, 0, none⟩) 1 1, .bool false, .slice (some ⟨w4.heap.size + 1, 0, none⟩) 1 1] (by kernel_rfl) ?_
  simp only [Act.put, List.setIfInBounds_toArray, List.set_cons_zero, List.set_cons_succ]
  obtain ⟨w5, hw5⟩ : ∃ x, x = (w4.alloc (.cells #[.int .i64 3] 3)).alloc (.cells #[.string { data := #[122] }] 9) := ⟨_, rfl⟩
  rw [← hw5]
  have HX : Hid (Below w4.heap.size w4 w5) := by rw [hw5]; exact blw_alloc (blw_alloc (Below.refl _ _) _) _
  obtain ⟨G, hG⟩ := HA.out.one ⟨{ data := #[122, 111, 110, 101] }, [3], false, [{ data := #[122] }]⟩ #[.int .i64 3] #[.string { data := #[122] }] rfl rfl (by decide) (by decide) rfl
  rw [← hw5] at hG
  replace HA := uh hG
  replace HB := uh (blw_trans HB.out HX.out)
  replace HM := uh ((HX.out.block _ (Array.getElem?_eq_some_iff.1 HM.out).1).trans HM.out)
  replace HK0 := uh (HK0.out.later HX.out)
  clear hG HX hw5
  refine kslice rfl 71 3 1 _ rfl w5.heap.size rfl _ rfl Try.und_ints Try.info_int (by decide) (by decide) #[.int .i64 1] (by kernel_rfl) ?_
  refine kslice rfl 67 9 1 _ rfl (w5.heap.size + 1) (by simp) _ rfl Try.und_strs Try.info_text (by decide) (by decide) #[.string { data := #[49, 48, 48] }] (by kernel_rfl) ?_
  refine kbuild rfl 73 _ rfl _ rfl #[.string { data := #[114, 111, 111, 109] }, .slice (some ⟨w5.heap.size, 0, none⟩) 1 1, .bool false, .slice (some ⟨w5.heap.size + 1, 0, none⟩) 1 1] (by kernel_rfl) ?_
  simp only [Act.put, List.setIfInBounds_toArray, List.set_cons_zero, List.set_cons_succ]
  obtain ⟨w6, hw6⟩ : ∃ x, x = (w5.alloc (.cells #[.int .i64 1] 3)).alloc (.cells #[.string { data := #[49, 48, 48] }] 9) := ⟨_, rfl⟩
  rw [← hw6]
  have HX : Hid (Below w5.heap.size w5 w6) := by rw [hw6]; exact blw_alloc (blw_alloc (Below.refl _ _) _) _
  obtain ⟨G, hG⟩ := HA.out.one ⟨{ data := #[114, 111, 111, 109] }, [1], false, [{ data := #[49, 48, 48] }]⟩ #[.int .i64 1] #[.string { data := #[49, 48, 48] }] rfl rfl (by decide) (by decide) rfl
  rw [← hw6] at hG
  replace HA := uh hG
  replace HB := uh (blw_trans HB.out HX.out)
  replace HM := uh ((HX.out.block _ (Array.getElem?_eq_some_iff.1 HM.out).1).trans HM.out)
  replace HK0 := uh (HK0.out.later HX.out)
  clear hG HX hw6
  refine kslice rfl 71 3 1 _ rfl w6.heap.size rfl _ rfl Try.und_ints Try.info_int (by decide) (by decide) #[.int .i64 1] (by kernel_rfl) ?_
  refine kslice rfl 67 9 1 _ rfl (w6.heap.size + 1) (by simp) _ rfl Try.und_strs Try.info_text (by decide) (by decide) #[.string { data := #[49, 48, 48] }] (by kernel_rfl) ?_
  refine kbuild rfl 73 _ rfl _ rfl #[.string { data := #[104, 111, 108, 100] }, .slice (some ⟨w6.heap.size, 0, none⟩) 1 1, .bool false, .slice (some ⟨w6.heap.size + 1, 0, none⟩) 1 1] (by kernel_rfl) ?_
  simp only [Act.put, List.setIfInBounds_toArray, List.set_cons_zero, List.set_cons_succ]
  obtain ⟨w7, hw7⟩ : ∃ x, x = (w6.alloc (.cells #[.int .i64 1] 3)).alloc (.cells #[.string { data := #[49, 48, 48] }] 9) := ⟨_, rfl⟩
  rw [← hw7]
  have HX : Hid (Below w6.heap.size w6 w7) := by rw [hw7]; exact blw_alloc (blw_alloc (Below.refl _ _) _) _
  obtain ⟨G, hG⟩ := HA.out.one ⟨{ data := #[104, 111, 108, 100] }, [1], false, [{ data := #[49, 48, 48] }]⟩ #[.int .i64 1] #[.string { data := #[49, 48, 48] }] rfl rfl (by decide) (by decide) rfl
  rw [← hw7] at hG
  replace HA := uh hG
  replace HB := uh (blw_trans HB.out HX.out)
  replace HM := uh ((HX.out.block _ (Array.getElem?_eq_some_iff.1 HM.out).1).trans HM.out)
  replace HK0 := uh (HK0.out.later HX.out)
  clear hG HX hw7
  refine kslice rfl 71 3 1 _ rfl w7.heap.size rfl _ rfl Try.und_ints Try.info_int (by decide) (by decide) #[.int .i64 3] (by kernel_rfl) ?_
  refine kbuild rfl 73 _ rfl _ rfl #[.string { data := #[109, 97, 114, 107] }, .slice (some ⟨w7.heap.size, 0, none⟩) 1 1, .bool true, .slice none 0 0] (by kernel_rfl) ?_
  simp only [Act.put, List.setIfInBounds_toArray, List.set_cons_zero, List.set_cons_succ]
  obtain ⟨w8, hw8⟩ : ∃ x, x = w7.alloc (.cells #[.int .i64 3] 3) := ⟨_, rfl⟩
  rw [← hw8]
  have HX : Hid (Below w7.heap.size w7 w8) := by rw [hw8]; exact blw_alloc (Below.refl _ _) _
  obtain ⟨G, hG⟩ := HA.out.many ⟨{ data := #[109, 97, 114, 107] }, [3], true, []⟩ #[.int .i64 3] rfl rfl (by decide) rfl
  rw [← hw8] at hG
  replace HA := uh hG
  replace HB := uh (blw_trans HB.out HX.out)
  replace HM := uh ((HX.out.block _ (Array.getElem?_eq_some_iff.1 HM.out).1).trans HM.out)
  replace HK0 := uh (HK0.out.later HX.out)
  clear hG HX hw8
  have HD := uh (Kp.of (HA.out.done #[.string { data := #[122, 111, 110, 101] }, .slice (some ⟨w4.heap.size, 0, none⟩) 1 1, .bool false, .slice (some ⟨w4.heap.size + 1, 0, none⟩) 1 1, .string { data := #[114, 111, 111, 109] }, .slice (some ⟨w5.heap.size, 0, none⟩) 1 1, .bool false, .slice (some ⟨w5.heap.size + 1, 0, none⟩) 1 1, .string { data := #[104, 111, 108, 100] }, .slice (some ⟨w6.heap.size, 0, none⟩) 1 1, .bool false, .slice (some ⟨w6.heap.size + 1, 0, none⟩) 1 1, .string { data := #[109, 97, 114, 107] }, .slice (some ⟨w7.heap.size, 0, none⟩) 1 1, .bool true, .slice none 0 0] rfl (by decide)))
  refine kslice rfl 62 73 4 _ rfl w8.heap.size rfl _ rfl Try.under_rules Try.info_rule (by decide) (by decide) #[.string { data := #[122, 111, 110, 101] }, .slice (some ⟨w4.heap.size, 0, none⟩) 1 1, .bool false, .slice (some ⟨w4.heap.size + 1, 0, none⟩) 1 1, .string { data := #[114, 111, 111, 109] }, .slice (some ⟨w5.heap.size, 0, none⟩) 1 1, .bool false, .slice (some ⟨w5.heap.size + 1, 0, none⟩) 1 1, .string { data := #[104, 111, 108, 100] }, .slice (some ⟨w6.heap.size, 0, none⟩) 1 1, .bool false, .slice (some ⟨w6.heap.size + 1, 0, none⟩) 1 1, .string { data := #[109, 97, 114, 107] }, .slice (some ⟨w7.heap.size, 0, none⟩) 1 1, .bool true, .slice none 0 0] (by kernel_rfl) ?_
  refine kbuild rfl 81 _ rfl _ rfl #[.slice (some ⟨w8.heap.size, 0, none⟩) 4 4] (by kernel_rfl) ?_
  obtain ⟨w9, hw9⟩ : ∃ x, x = w8.alloc (.cells #[.string { data := #[122, 111, 110, 101] }, .slice (some ⟨w4.heap.size, 0, none⟩) 1 1, .bool false, .slice (some ⟨w4.heap.size + 1, 0, none⟩) 1 1, .string { data := #[114, 111, 111, 109] }, .slice (some ⟨w5.heap.size, 0, none⟩) 1 1, .bool false, .slice (some ⟨w5.heap.size + 1, 0, none⟩) 1 1, .string { data := #[104, 111, 108, 100] }, .slice (some ⟨w6.heap.size, 0, none⟩) 1 1, .bool false, .slice (some ⟨w6.heap.size + 1, 0, none⟩) 1 1, .string { data := #[109, 97, 114, 107] }, .slice (some ⟨w7.heap.size, 0, none⟩) 1 1, .bool true, .slice none 0 0] 73) := ⟨_, rfl⟩
  rw [← hw9]
  rw [← hw9] at HD
  have HX : Hid (Below w8.heap.size w8 w9) := by rw [hw9]; exact blw_alloc (Below.refl _ _) _
  replace HB := uh (blw_trans HB.out HX.out)
  replace HM := uh ((HX.out.block _ (Array.getElem?_eq_some_iff.1 HM.out).1).trans HM.out)
  replace HK0 := uh (HK0.out.later HX.out)
  obtain ⟨v1, hv1⟩ : ∃ x, x = Value.slice (some ⟨w8.heap.size, 0, none⟩) 4 4 := ⟨_, rfl⟩
  replace HD : Hid (Kp w0 Pl.kBerthR v1 w9) := by rw [hv1]; exact HD.out.mono HQ.out
  have HK1 := HD
  rw [← hv1]
  simp only [Act.put, List.setIfInBounds_toArray, List.set_cons_zero, List.set_cons_succ]
  clear HX HD hw9 hv1 HA HQ
  have hi := ins_text HM.out ({ data := #[98, 101, 114, 116, 104] }) (.agg #[v1]) rfl
  refine kskip rfl rfl (kput w9 w.heap.size (.map #[⟨.string { data := #[116, 101, 97, 109] }, .agg #[v0], 0⟩, ⟨.string { data := #[98, 101, 114, 116, 104] }, .agg #[v1], 1⟩] 2)) (by simp [execOp, go_sem, hi]) ?_
  obtain ⟨w10, hw10⟩ : ∃ x, x = kput w9 w.heap.size (.map #[⟨.string { data := #[116, 101, 97, 109] }, .agg #[v0], 0⟩, ⟨.string { data := #[98, 101, 114, 116, 104] }, .agg #[v1], 1⟩] 2) := ⟨_, rfl⟩
  rw [← hw10]
  have HP : Hid (Marks (fun b => b = w.heap.size) w9 w10) := by rw [hw10]; exact kput_marks _ HM.out
  replace HB := uh (HP.out.below (fun p e => by omega) HB.out)
  replace HK0 : Hid (Kp w0 Pl.kTeamR v0 w10) := by rw [hw10]; exact HK0.out.put _ HM.out (by have := HZ.out; omega)
  replace HK1 : Hid (Kp w0 Pl.kBerthR v1 w10) := by rw [hw10]; exact HK1.out.put _ HM.out (by have := HZ.out; omega)
  replace HM : Hid (w10.heap[w.heap.size]? = some (.map #[⟨.string { data := #[116, 101, 97, 109] }, .agg #[v0], 0⟩, ⟨.string { data := #[98, 101, 114, 116, 104] }, .agg #[v1], 1⟩] 2)) := by rw [hw10]; exact kput_at _ (Array.getElem?_eq_some_iff.1 HM.out).1
  clear HP hw10 hi
  have HA : Hid (Acc w10 w10 [] [] []) := Acc.nil w10
  have HQ : Hid (w0.heap.size ≤ w10.heap.size) := by have := (Array.getElem?_eq_some_iff.1 HM.out).1; have := HZ.out; show _ ≤ _; omega
  refine kslice rfl 71 3 1 _ rfl w10.heap.size rfl _ rfl Try.und_ints Try.info_int (by decide) (by decide) #[.int .i64 3] (by kernel_rfl) ?_
  refine kslice rfl 67 9 1 _ rfl (w10.heap.size + 1) (by simp) _ rfl Try.und_strs Try.info_text (by decide) (by decide) #[.string { data := #[99, 111, 114, 101] }] (by kernel_rfl) ?_
  refine kbuild rfl 73 _ rfl _ rfl #[.string { data := #[116, 101, 97, 109] }, .slice (some ⟨w10.heap.size, 0, none⟩) 1 1, .bool false, .slice (some ⟨w10.heap.size + 1, 0, none⟩) 1 1] (by kernel_rfl) ?_
  simp only [Act.put, List.setIfInBounds_toArray, List.set_cons_zero, List.set_cons_succ]
  obtain ⟨w11, hw11⟩ : ∃ x, x = (w10.alloc (.cells #[.int .i64 3] 3)).alloc (.cells #[.string { data := #[99, 111, 114, 101] }] 9) := ⟨_, rfl⟩
  rw [← hw11]
  have HX : Hid (Below w10.heap.size w10 w11) := by rw [hw11]; exact blw_alloc (blw_alloc (Below.refl _ _) _) _
  obtain ⟨G, hG⟩ := HA.out.one ⟨{ data := #[116, 101, 97, 109] }, [3], false, [{ data := #[99, 111, 114, 101] }]⟩ #[.int .i64 3] #[.string { data := #[99, 111, 114, 101] }] rfl rfl (by decide) (by decide) rfl
  rw [← hw11] at hG
  replace HA := uh hG
  replace HB := uh (blw_trans HB.out HX.out)
  replace HM := uh ((HX.out.block _ (Array.getElem?_eq_some_iff.1 HM.out).1).trans HM.out)
  replace HK0 := uh (HK0.out.later HX.out)
  replace HK1 := uh (HK1.out.later HX.out)
  clear hG HX hw11
  refine kslice rfl 71 3 1 _ rfl w11.heap.size rfl _ rfl Try.und_ints Try.info_int (by decide) (by decide) #[.int .i64 1] (by kernel_rfl) ?_
  refine kslice rfl 67 9 1 _ rfl (w11.heap.size + 1) (by simp) _ rfl Try.und_strs Try.info_text (by decide) (by decide) #[.string { data := #[49] }] (by kernel_rfl) ?_
  refine kbuild rfl 73 _ rfl _ rfl #[.string { data := #[105, 109, 97, 103, 101] }, .slice (some ⟨w11.heap.size, 0, none⟩) 1 1, .bool false, .slice (some ⟨w11.heap.size + 1, 0, none⟩) 1 1] (by kernel_rfl) ?_
  simp only [Act.put, List.setIfInBounds_toArray, List.set_cons_zero, List.set_cons_succ]
  obtain ⟨w12, hw12⟩ : ∃ x, x = (w11.alloc (.cells #[.int .i64 1] 3)).alloc (.cells #[.string { data := #[49] }] 9) := ⟨_, rfl⟩
  rw [← hw12]
  have HX : Hid (Below w11.heap.size w11 w12) := by rw [hw12]; exact blw_alloc (blw_alloc (Below.refl _ _) _) _
  obtain ⟨G, hG⟩ := HA.out.one ⟨{ data := #[105, 109, 97, 103, 101] }, [1], false, [{ data := #[49] }]⟩ #[.int .i64 1] #[.string { data := #[49] }] rfl rfl (by decide) (by decide) rfl
  rw [← hw12] at hG
  replace HA := uh hG
  replace HB := uh (blw_trans HB.out HX.out)
  replace HM := uh ((HX.out.block _ (Array.getElem?_eq_some_iff.1 HM.out).1).trans HM.out)
  replace HK0 := uh (HK0.out.later HX.out)
  replace HK1 := uh (HK1.out.later HX.out)
  clear hG HX hw12
  refine kslice rfl 71 3 1 _ rfl w12.heap.size rfl _ rfl Try.und_ints Try.info_int (by decide) (by decide) #[.int .i64 1] (by kernel_rfl) ?_
  refine kslice rfl 67 9 1 _ rfl (w12.heap.size + 1) (by simp) _ rfl Try.und_strs Try.info_text (by decide) (by decide) #[.string { data := #[49] }] (by kernel_rfl) ?_
  refine kbuild rfl 73 _ rfl _ rfl #[.string { data := #[119, 97, 110, 116] }, .slice (some ⟨w12.heap.size, 0, none⟩) 1 1, .bool false, .slice (some ⟨w12.heap.size + 1, 0, none⟩) 1 1] (by kernel_rfl) ?_
  simp only [Act.put, List.setIfInBounds_toArray, List.set_cons_zero, List.set_cons_succ]
  obtain ⟨w13, hw13⟩ : ∃ x, x = (w12.alloc (.cells #[.int .i64 1] 3)).alloc (.cells #[.string { data := #[49] }] 9) := ⟨_, rfl⟩
  rw [← hw13]
  have HX : Hid (Below w12.heap.size w12 w13) := by rw [hw13]; exact blw_alloc (blw_alloc (Below.refl _ _) _) _
  obtain ⟨G, hG⟩ := HA.out.one ⟨{ data := #[119, 97, 110, 116] }, [1], false, [{ data := #[49] }]⟩ #[.int .i64 1] #[.string { data := #[49] }] rfl rfl (by decide) (by decide) rfl
  rw [← hw13] at hG
  replace HA := uh hG
  replace HB := uh (blw_trans HB.out HX.out)
  replace HM := uh ((HX.out.block _ (Array.getElem?_eq_some_iff.1 HM.out).1).trans HM.out)
  replace HK0 := uh (HK0.out.later HX.out)
  replace HK1 := uh (HK1.out.later HX.out)
  clear hG HX hw13
  refine kslice rfl 71 3 1 _ rfl w13.heap.size rfl _ rfl Try.und_ints Try.info_int (by decide) (by decide) #[.int .i64 1] (by kernel_rfl) ?_
  refine kslice rfl 67 9 1 _ rfl (w13.heap.size + 1) (by simp) _ rfl Try.und_strs Try.info_text (by decide) (by decide) #[.string { data := #[49] }] (by kernel_rfl) ?_
  refine kbuild rfl 73 _ rfl _ rfl #[.string { data := #[100, 111, 119, 110] }, .slice (some ⟨w13.heap.size, 0, none⟩) 1 1, .bool false, .slice (some ⟨w13.heap.size + 1, 0, none⟩) 1 1] (by kernel_rfl) ?_
  simp only [Act.put, List.setIfInBounds_toArray, List.set_cons_zero, List.set_cons_succ]
  obtain ⟨w14, hw14⟩ : ∃ x, x = (w13.alloc (.cells #[.int .i64 1] 3)).alloc (.cells #[.string { data := #[49] }] 9) := ⟨_, rfl⟩
  rw [← hw14]
  have HX : Hid (Below w13.heap.size w13 w14) := by rw [hw14]; exact blw_alloc (blw_alloc (Below.refl _ _) _) _
  obtain ⟨G, hG⟩ := HA.out.one ⟨{ data := #[100, 111, 119, 110] }, [1], false, [{ data := #[49] }]⟩ #[.int .i64 1] #[.string { data := #[49] }] rfl rfl (by decide) (by decide) rfl
  rw [← hw14] at hG
  replace HA := uh hG
  replace HB := uh (blw_trans HB.out HX.out)
  replace HM := uh ((HX.out.block _ (Array.getElem?_eq_some_iff.1 HM.out).1).trans HM.out)
  replace HK0 := uh (HK0.out.later HX.out)
  replace HK1 := uh (HK1.out.later HX.out)
  clear hG HX hw14
  refine kslice rfl 71 3 1 _ rfl w14.heap.size rfl _ rfl Try.und_ints Try.info_int (by decide) (by decide) #[.int .i64 1] (by kernel_rfl) ?_
  refine kslice rfl 67 9 1 _ rfl (w14.heap.size + 1) (by simp) _ rfl Try.und_strs Try.info_text (by decide) (by decide) #[.string { data := #[48] }] (by kernel_rfl) ?_
  refine kbuild rfl 73 _ rfl _ rfl #[.string { data := #[111, 118, 101, 114] }, .slice (some ⟨w14.heap.size, 0, none⟩) 1 1, .bool false, .slice (some ⟨w14.heap.size + 1, 0, none⟩) 1 1] (by kernel_rfl) ?_
  simp only [Act.put, List.setIfInBounds_toArray, List.set_cons_zero, List.set_cons_succ]
  obtain ⟨w15, hw15⟩ : ∃ x, x = (w14.alloc (.cells #[.int .i64 1] 3)).alloc (.cells #[.string { data := #[48] }] 9) := ⟨_, rfl⟩
  rw [← hw15]
  have HX : Hid (Below w14.heap.size w14 w15) := by rw [hw15]; exact blw_alloc (blw_alloc (Below.refl _ _) _) _
  obtain ⟨G, hG⟩ := HA.out.one ⟨{ data := #[111, 118, 101, 114] }, [1], false, [{ data := #[48] }]⟩ #[.int .i64 1] #[.string { data := #[48] }] rfl rfl (by decide) (by decide) rfl
  rw [← hw15] at hG
  replace HA := uh hG
  replace HB := uh (blw_trans HB.out HX.out)
  replace HM := uh ((HX.out.block _ (Array.getElem?_eq_some_iff.1 HM.out).1).trans HM.out)
  replace HK0 := uh (HK0.out.later HX.out)
  replace HK1 := uh (HK1.out.later HX.out)
  clear hG HX hw15
  refine kslice rfl 71 3 2 _ rfl w15.heap.size rfl _ rfl Try.und_ints Try.info_int (by decide) (by decide) #[.int .i64 1, .int .i64 1] (by kernel_rfl) ?_
  refine kslice rfl 67 9 2 _ rfl (w15.heap.size + 1) (by simp) _ rfl Try.und_strs Try.info_text (by decide) (by decide) #[.string { data := #[49] }, .string { data := #[49] }] (by kernel_rfl) ?_
  refine kbuild rfl 73 _ rfl _ rfl #[.string { data := #[110, 101, 101, 100, 115] }, .slice (some ⟨w15.heap.size, 0, none⟩) 2 2, .bool false, .slice (some ⟨w15.heap.size + 1, 0, none⟩) 2 2] (by kernel_rfl) ?_
  simp only [Act.put, List.setIfInBounds_toArray, List.set_cons_zero, List.set_cons_succ]
  obtain ⟨w16, hw16⟩ : ∃ x, x = (w15.alloc (.cells #[.int .i64 1, .int .i64 1] 3)).alloc (.cells #[.string { data := #[49] }, .string { data := #[49] }] 9) := ⟨_, rfl⟩
  rw [← hw16]
  have HX : Hid (Below w15.heap.size w15 w16) := by rw [hw16]; exact blw_alloc (blw_alloc (Below.refl _ _) _) _
  obtain ⟨G, hG⟩ := HA.out.one ⟨{ data := #[110, 101, 101, 100, 115] }, [1, 1], false, [{ data := #[49] }, { data := #[49] }]⟩ #[.int .i64 1, .int .i64 1] #[.string { data := #[49] }, .string { data := #[49] }] rfl rfl (by decide) (by decide) rfl
  rw [← hw16] at hG
  replace HA := uh hG
  replace HB := uh (blw_trans HB.out HX.out)
  replace HM := uh ((HX.out.block _ (Array.getElem?_eq_some_iff.1 HM.out).1).trans HM.out)
  replace HK0 := uh (HK0.out.later HX.out)
  replace HK1 := uh (HK1.out.later HX.out)
  clear hG HX hw16
  refine kslice rfl 71 3 1 _ rfl w16.heap.size rfl _ rfl Try.und_ints Try.info_int (by decide) (by decide) #[.int .i64 4] (by kernel_rfl) ?_
  refine kslice rfl 67 9 1 _ rfl (w16.heap.size + 1) (by simp) _ rfl Try.und_strs Try.info_text (by decide) (by decide) #[.string { data := #[] }] (by kernel_rfl) ?_
  refine kbuild rfl 73 _ rfl _ rfl #[.string { data := #[119, 104, 101, 114, 101] }, .slice (some ⟨w16.heap.size, 0, none⟩) 1 1, .bool false, .slice (some ⟨w16.heap.size + 1, 0, none⟩) 1 1] (by kernel_rfl) ?_
  simp only [Act.put, List.setIfInBounds_toArray, List.set_cons_zero, List.set_cons_succ]
  obtain ⟨w17, hw17⟩ : ∃ x, x = (w16.alloc (.cells #[.int .i64 4] 3)).alloc (.cells #[.string { data := #[] }] 9) := ⟨_, rfl⟩
  rw [← hw17]
  have HX : Hid (Below w16.heap.size w16 w17) := by rw [hw17]; exact blw_alloc (blw_alloc (Below.refl _ _) _) _
  obtain ⟨G, hG⟩ := HA.out.one ⟨{ data := #[119, 104, 101, 114, 101] }, [4], false, [{ data := #[] }]⟩ #[.int .i64 4] #[.string { data := #[] }] rfl rfl (by decide) (by decide) rfl
  rw [← hw17] at hG
  replace HA := uh hG
  replace HB := uh (blw_trans HB.out HX.out)
  replace HM := uh ((HX.out.block _ (Array.getElem?_eq_some_iff.1 HM.out).1).trans HM.out)
  replace HK0 := uh (HK0.out.later HX.out)
  replace HK1 := uh (HK1.out.later HX.out)
  clear hG HX hw17
  refine kslice rfl 71 3 2 _ rfl w17.heap.size rfl _ rfl Try.und_ints Try.info_int (by decide) (by decide) #[.int .i64 4, .int .i64 2] (by kernel_rfl) ?_
  refine kbuild rfl 73 _ rfl _ rfl #[.string { data := #[108, 105, 107, 101] }, .slice (some ⟨w17.heap.size, 0, none⟩) 2 2, .bool true, .slice none 0 0] (by kernel_rfl) ?_
  simp only [Act.put, List.setIfInBounds_toArray, List.set_cons_zero, List.set_cons_succ]
  obtain ⟨w18, hw18⟩ : ∃ x, x = w17.alloc (.cells #[.int .i64 4, .int .i64 2] 3) := ⟨_, rfl⟩
  rw [← hw18]
  have HX : Hid (Below w17.heap.size w17 w18) := by rw [hw18]; exact blw_alloc (Below.refl _ _) _
  obtain ⟨G, hG⟩ := HA.out.many ⟨{ data := #[108, 105, 107, 101] }, [4, 2], true, []⟩ #[.int .i64 4, .int .i64 2] rfl rfl (by decide) rfl
  rw [← hw18] at hG
  replace HA := uh hG
  replace HB := uh (blw_trans HB.out HX.out)
  replace HM := uh ((HX.out.block _ (Array.getElem?_eq_some_iff.1 HM.out).1).trans HM.out)
  replace HK0 := uh (HK0.out.later HX.out)
  replace HK1 := uh (HK1.out.later HX.out)
  clear hG HX hw18
  refine kslice rfl 71 3 1 _ rfl w18.heap.size rfl _ rfl Try.und_ints Try.info_int (by decide) (by decide) #[.int .i64 6] (by kernel_rfl) ?_
  refine kslice rfl 67 9 1 _ rfl (w18.heap.size + 1) (by simp) _ rfl Try.und_strs Try.info_text (by decide) (by decide) #[.string { data := #[110, 111, 110, 101] }] (by kernel_rfl) ?_
  refine kbuild rfl 73 _ rfl _ rfl #[.string { data := #[97, 112, 97, 114, 116] }, .slice (some ⟨w18.heap.size, 0, none⟩) 1 1, .bool false, .slice (some ⟨w18.heap.size + 1, 0, none⟩) 1 1] (by kernel_rfl) ?_
  simp only [Act.put, List.setIfInBounds_toArray, List.set_cons_zero, List.set_cons_succ]
  obtain ⟨w19, hw19⟩ : ∃ x, x = (w18.alloc (.cells #[.int .i64 6] 3)).alloc (.cells #[.string { data := #[110, 111, 110, 101] }] 9) := ⟨_, rfl⟩
  rw [← hw19]
  have HX : Hid (Below w18.heap.size w18 w19) := by rw [hw19]; exact blw_alloc (blw_alloc (Below.refl _ _) _) _
  obtain ⟨G, hG⟩ := HA.out.one ⟨{ data := #[97, 112, 97, 114, 116] }, [6], false, [{ data := #[110, 111, 110, 101] }]⟩ #[.int .i64 6] #[.string { data := #[110, 111, 110, 101] }] rfl rfl (by decide) (by decide) rfl
  rw [← hw19] at hG
  replace HA := uh hG
  replace HB := uh (blw_trans HB.out HX.out)
  replace HM := uh ((HX.out.block _ (Array.getElem?_eq_some_iff.1 HM.out).1).trans HM.out)
  replace HK0 := uh (HK0.out.later HX.out)
  replace HK1 := uh (HK1.out.later HX.out)
  clear hG HX hw19
  refine kslice rfl 71 3 1 _ rfl w19.heap.size rfl _ rfl Try.und_ints Try.info_int (by decide) (by decide) #[.int .i64 5] (by kernel_rfl) ?_
  refine kslice rfl 67 9 1 _ rfl (w19.heap.size + 1) (by simp) _ rfl Try.und_strs Try.info_text (by decide) (by decide) #[.string { data := #[110, 111] }] (by kernel_rfl) ?_
  refine kbuild rfl 73 _ rfl _ rfl #[.string { data := #[118, 111, 108, 117, 109, 101] }, .slice (some ⟨w19.heap.size, 0, none⟩) 1 1, .bool false, .slice (some ⟨w19.heap.size + 1, 0, none⟩) 1 1] (by kernel_rfl) ?_
  simp only [Act.put, List.setIfInBounds_toArray, List.set_cons_zero, List.set_cons_succ]
  obtain ⟨w20, hw20⟩ : ∃ x, x = (w19.alloc (.cells #[.int .i64 5] 3)).alloc (.cells #[.string { data := #[110, 111] }] 9) := ⟨_, rfl⟩
  rw [← hw20]
  have HX : Hid (Below w19.heap.size w19 w20) := by rw [hw20]; exact blw_alloc (blw_alloc (Below.refl _ _) _) _
  obtain ⟨G, hG⟩ := HA.out.one ⟨{ data := #[118, 111, 108, 117, 109, 101] }, [5], false, [{ data := #[110, 111] }]⟩ #[.int .i64 5] #[.string { data := #[110, 111] }] rfl rfl (by decide) (by decide) rfl
  rw [← hw20] at hG
  replace HA := uh hG
  replace HB := uh (blw_trans HB.out HX.out)
  replace HM := uh ((HX.out.block _ (Array.getElem?_eq_some_iff.1 HM.out).1).trans HM.out)
  replace HK0 := uh (HK0.out.later HX.out)
  replace HK1 := uh (HK1.out.later HX.out)
  clear hG HX hw20
  refine kslice rfl 71 3 3 _ rfl w20.heap.size rfl _ rfl Try.und_ints Try.info_int (by decide) (by decide) #[.int .i64 1, .int .i64 1, .int .i64 1] (by kernel_rfl) ?_
  refine kslice rfl 67 9 3 _ rfl (w20.heap.size + 1) (by simp) _ rfl Try.und_strs Try.info_text (by decide) (by decide) #[.string { data := #[48] }, .string { data := #[48] }, .string { data := #[48] }] (by kernel_rfl) ?_
  refine kbuild rfl 73 _ rfl _ rfl #[.string { data := #[102, 111, 108, 108, 111, 119] }, .slice (some ⟨w20.heap.size, 0, none⟩) 3 3, .bool false, .slice (some ⟨w20.heap.size + 1, 0, none⟩) 3 3] (by kernel_rfl) ?_
  simp only [Act.put, List.setIfInBounds_toArray, List.set_cons_zero, List.set_cons_succ]
  obtain ⟨w21, hw21⟩ : ∃ x, x = (w20.alloc (.cells #[.int .i64 1, .int .i64 1, .int .i64 1] 3)).alloc (.cells #[.string { data := #[48] }, .string { data := #[48] }, .string { data := #[48] }] 9) := ⟨_, rfl⟩
  rw [← hw21]
  have HX : Hid (Below w20.heap.size w20 w21) := by rw [hw21]; exact blw_alloc (blw_alloc (Below.refl _ _) _) _
  obtain ⟨G, hG⟩ := HA.out.one ⟨{ data := #[102, 111, 108, 108, 111, 119] }, [1, 1, 1], false, [{ data := #[48] }, { data := #[48] }, { data := #[48] }]⟩ #[.int .i64 1, .int .i64 1, .int .i64 1] #[.string { data := #[48] }, .string { data := #[48] }, .string { data := #[48] }] rfl rfl (by decide) (by decide) rfl
  rw [← hw21] at hG
  replace HA := uh hG
  replace HB := uh (blw_trans HB.out HX.out)
  replace HM := uh ((HX.out.block _ (Array.getElem?_eq_some_iff.1 HM.out).1).trans HM.out)
  replace HK0 := uh (HK0.out.later HX.out)
  replace HK1 := uh (HK1.out.later HX.out)
  clear hG HX hw21
  refine kslice rfl 71 3 3 _ rfl w21.heap.size rfl _ rfl Try.und_ints Try.info_int (by decide) (by decide) #[.int .i64 1, .int .i64 1, .int .i64 1] (by kernel_rfl) ?_
  refine kslice rfl 67 9 3 _ rfl (w21.heap.size + 1) (by simp) _ rfl Try.und_strs Try.info_text (by decide) (by decide) #[.string { data := #[48] }, .string { data := #[48] }, .string { data := #[48] }] (by kernel_rfl) ?_
  refine kbuild rfl 73 _ rfl _ rfl #[.string { data := #[112, 97, 99, 101] }, .slice (some ⟨w21.heap.size, 0, none⟩) 3 3, .bool false, .slice (some ⟨w21.heap.size + 1, 0, none⟩) 3 3] (by kernel_rfl) ?_
  simp only [Act.put, List.setIfInBounds_toArray, List.set_cons_zero, List.set_cons_succ]
  obtain ⟨w22, hw22⟩ : ∃ x, x = (w21.alloc (.cells #[.int .i64 1, .int .i64 1, .int .i64 1] 3)).alloc (.cells #[.string { data := #[48] }, .string { data := #[48] }, .string { data := #[48] }] 9) := ⟨_, rfl⟩
  rw [← hw22]
  have HX : Hid (Below w21.heap.size w21 w22) := by rw [hw22]; exact blw_alloc (blw_alloc (Below.refl _ _) _) _
  obtain ⟨G, hG⟩ := HA.out.one ⟨{ data := #[112, 97, 99, 101] }, [1, 1, 1], false, [{ data := #[48] }, { data := #[48] }, { data := #[48] }]⟩ #[.int .i64 1, .int .i64 1, .int .i64 1] #[.string { data := #[48] }, .string { data := #[48] }, .string { data := #[48] }] rfl rfl (by decide) (by decide) rfl
  rw [← hw22] at hG
  replace HA := uh hG
  replace HB := uh (blw_trans HB.out HX.out)
  replace HM := uh ((HX.out.block _ (Array.getElem?_eq_some_iff.1 HM.out).1).trans HM.out)
  replace HK0 := uh (HK0.out.later HX.out)
  replace HK1 := uh (HK1.out.later HX.out)
  clear hG HX hw22
  have HD := uh (Kp.of (HA.out.done #[.string { data := #[116, 101, 97, 109] }, .slice (some ⟨w10.heap.size, 0, none⟩) 1 1, .bool false, .slice (some ⟨w10.heap.size + 1, 0, none⟩) 1 1, .string { data := #[105, 109, 97, 103, 101] }, .slice (some ⟨w11.heap.size, 0, none⟩) 1 1, .bool false, .slice (some ⟨w11.heap.size + 1, 0, none⟩) 1 1, .string { data := #[119, 97, 110, 116] }, .slice (some ⟨w12.heap.size, 0, none⟩) 1 1, .bool false, .slice (some ⟨w12.heap.size + 1, 0, none⟩) 1 1, .string { data := #[100, 111, 119, 110] }, .slice (some ⟨w13.heap.size, 0, none⟩) 1 1, .bool false, .slice (some ⟨w13.heap.size + 1, 0, none⟩) 1 1, .string { data := #[111, 118, 101, 114] }, .slice (some ⟨w14.heap.size, 0, none⟩) 1 1, .bool false, .slice (some ⟨w14.heap.size + 1, 0, none⟩) 1 1, .string { data := #[110, 101, 101, 100, 115] }, .slice (some ⟨w15.heap.size, 0, none⟩) 2 2, .bool false, .slice (some ⟨w15.heap.size + 1, 0, none⟩) 2 2, .string { data := #[119, 104, 101, 114, 101] }, .slice (some ⟨w16.heap.size, 0, none⟩) 1 1, .bool false, .slice (some ⟨w16.heap.size + 1, 0, none⟩) 1 1, .string { data := #[108, 105, 107, 101] }, .slice (some ⟨w17.heap.size, 0, none⟩) 2 2, .bool true, .slice none 0 0, .string { data := #[97, 112, 97, 114, 116] }, .slice (some ⟨w18.heap.size, 0, none⟩) 1 1, .bool false, .slice (some ⟨w18.heap.size + 1, 0, none⟩) 1 1, .string { data := #[118, 111, 108, 117, 109, 101] }, .slice (some ⟨w19.heap.size, 0, none⟩) 1 1, .bool false, .slice (some ⟨w19.heap.size + 1, 0, none⟩) 1 1, .string { data := #[102, 111, 108, 108, 111, 119] }, .slice (some ⟨w20.heap.size, 0, none⟩) 3 3, .bool false, .slice (some ⟨w20.heap.size + 1, 0, none⟩) 3 3, .string { data := #[112, 97, 99, 101] }, .slice (some ⟨w21.heap.size, 0, none⟩) 3 3, .bool false, .slice (some ⟨w21.heap.size + 1, 0, none⟩) 3 3] rfl (by decide)))
  refine kslice rfl 62 73 12 _ rfl w22.heap.size rfl _ rfl Try.under_rules Try.info_rule (by decide) (by decide) #[.string { data := #[116, 101, 97, 109] }, .slice (some ⟨w10.heap.size, 0, none⟩) 1 1, .bool false, .slice (some ⟨w10.heap.size + 1, 0, none⟩) 1 1, .string { data := #[105, 109, 97, 103, 101] }, .slice (some ⟨w11.heap.size, 0, none⟩) 1 1, .bool false, .slice (some ⟨w11.heap.size + 1, 0, none⟩) 1 1, .string { data := #[119, 97, 110, 116] }, .slice (some ⟨w12.heap.size, 0, none⟩) 1 1, .bool false, .slice (some ⟨w12.heap.size + 1, 0, none⟩) 1 1, .string { data := #[100, 111, 119, 110] }, .slice (some ⟨w13.heap.size, 0, none⟩) 1 1, .bool false, .slice (some ⟨w13.heap.size + 1, 0, none⟩) 1 1, .string { data := #[111, 118, 101, 114] }, .slice (some ⟨w14.heap.size, 0, none⟩) 1 1, .bool false, .slice (some ⟨w14.heap.size + 1, 0, none⟩) 1 1, .string { data := #[110, 101, 101, 100, 115] }, .slice (some ⟨w15.heap.size, 0, none⟩) 2 2, .bool false, .slice (some ⟨w15.heap.size + 1, 0, none⟩) 2 2, .string { data := #[119, 104, 101, 114, 101] }, .slice (some ⟨w16.heap.size, 0, none⟩) 1 1, .bool false, .slice (some ⟨w16.heap.size + 1, 0, none⟩) 1 1, .string { data := #[108, 105, 107, 101] }, .slice (some ⟨w17.heap.size, 0, none⟩) 2 2, .bool true, .slice none 0 0, .string { data := #[97, 112, 97, 114, 116] }, .slice (some ⟨w18.heap.size, 0, none⟩) 1 1, .bool false, .slice (some ⟨w18.heap.size + 1, 0, none⟩) 1 1, .string { data := #[118, 111, 108, 117, 109, 101] }, .slice (some ⟨w19.heap.size, 0, none⟩) 1 1, .bool false, .slice (some ⟨w19.heap.size + 1, 0, none⟩) 1 1, .string { data := #[102, 111, 108, 108, 111, 119] }, .slice (some ⟨w20.heap.size, 0, none⟩) 3 3, .bool false, .slice (some ⟨w20.heap.size + 1, 0, none⟩) 3 3, .string { data := #[112, 97, 99, 101] }, .slice (some ⟨w21.heap.size, 0, none⟩) 3 3, .bool false, .slice (some ⟨w21.heap.size + 1, 0, none⟩) 3 3] (by kernel_rfl) ?_
  refine kbuild rfl 81 _ rfl _ rfl #[.slice (some ⟨w22.heap.size, 0, none⟩) 12 12] (by kernel_rfl) ?_
  obtain ⟨w23, hw23⟩ : ∃ x, x = w22.alloc (.cells #[.string { data := #[116, 101, 97, 109] }, .slice (some ⟨w10.heap.size, 0, none⟩) 1 1, .bool false, .slice (some ⟨w10.heap.size + 1, 0, none⟩) 1 1, .string { data := #[105, 109, 97, 103, 101] }, .slice (some ⟨w11.heap.size, 0, none⟩) 1 1, .bool false, .slice (some ⟨w11.heap.size + 1, 0, none⟩) 1 1, .string { data := #[119, 97, 110, 116] }, .slice (some ⟨w12.heap.size, 0, none⟩) 1 1, .bool false, .slice (some ⟨w12.heap.size + 1, 0, none⟩) 1 1, .string { data := #[100, 111, 119, 110] }, .slice (some ⟨w13.heap.size, 0, none⟩) 1 1, .bool false, .slice (some ⟨w13.heap.size + 1, 0, none⟩) 1 1, .string { data := #[111, 118, 101, 114] }, .slice (some ⟨w14.heap.size, 0, none⟩) 1 1, .bool false, .slice (some ⟨w14.heap.size + 1, 0, none⟩) 1 1, .string { data := #[110, 101, 101, 100, 115] }, .slice (some ⟨w15.heap.size, 0, none⟩) 2 2, .bool false, .slice (some ⟨w15.heap.size + 1, 0, none⟩) 2 2, .string { data := #[119, 104, 101, 114, 101] }, .slice (some ⟨w16.heap.size, 0, none⟩) 1 1, .bool false, .slice (some ⟨w16.heap.size + 1, 0, none⟩) 1 1, .string { data := #[108, 105, 107, 101] }, .slice (some ⟨w17.heap.size, 0, none⟩) 2 2, .bool true, .slice none 0 0, .string { data := #[97, 112, 97, 114, 116] }, .slice (some ⟨w18.heap.size, 0, none⟩) 1 1, .bool false, .slice (some ⟨w18.heap.size + 1, 0, none⟩) 1 1, .string { data := #[118, 111, 108, 117, 109, 101] }, .slice (some ⟨w19.heap.size, 0, none⟩) 1 1, .bool false, .slice (some ⟨w19.heap.size + 1, 0, none⟩) 1 1, .string { data := #[102, 111, 108, 108, 111, 119] }, .slice (some ⟨w20.heap.size, 0, none⟩) 3 3, .bool false, .slice (some ⟨w20.heap.size + 1, 0, none⟩) 3 3, .string { data := #[112, 97, 99, 101] }, .slice (some ⟨w21.heap.size, 0, none⟩) 3 3, .bool false, .slice (some ⟨w21.heap.size + 1, 0, none⟩) 3 3] 73) := ⟨_, rfl⟩
  rw [← hw23]
  rw [← hw23] at HD
  have HX : Hid (Below w22.heap.size w22 w23) := by rw [hw23]; exact blw_alloc (Below.refl _ _) _
  replace HB := uh (blw_trans HB.out HX.out)
  replace HM := uh ((HX.out.block _ (Array.getElem?_eq_some_iff.1 HM.out).1).trans HM.out)
  replace HK0 := uh (HK0.out.later HX.out)
  replace HK1 := uh (HK1.out.later HX.out)
  obtain ⟨v2, hv2⟩ : ∃ x, x = Value.slice (some ⟨w22.heap.size, 0, none⟩) 12 12 := ⟨_, rfl⟩
  replace HD : Hid (Kp w0 Pl.kServiceR v2 w23) := by rw [hv2]; exact HD.out.mono HQ.out
  have HK2 := HD
  rw [← hv2]
  simp only [Act.put, List.setIfInBounds_toArray, List.set_cons_zero, List.set_cons_succ]
  clear HX HD hw23 hv2 HA HQ
  have hi := ins_text HM.out ({ data := #[115, 101, 114, 118, 105, 99, 101] }) (.agg #[v2]) rfl
  refine kskip rfl rfl (kput w23 w.heap.size (.map #[⟨.string { data := #[116, 101, 97, 109] }, .agg #[v0], 0⟩, ⟨.string { data := #[98, 101, 114, 116, 104] }, .agg #[v1], 1⟩, ⟨.string { data := #[115, 101, 114, 118, 105, 99, 101] }, .agg #[v2], 2⟩] 3)) (by simp [execOp, go_sem, hi]) ?_
  obtain ⟨w24, hw24⟩ : ∃ x, x = kput w23 w.heap.size (.map #[⟨.string { data := #[116, 101, 97, 109] }, .agg #[v0], 0⟩, ⟨.string { data := #[98, 101, 114, 116, 104] }, .agg #[v1], 1⟩, ⟨.string { data := #[115, 101, 114, 118, 105, 99, 101] }, .agg #[v2], 2⟩] 3) := ⟨_, rfl⟩
  rw [← hw24]
  have HP : Hid (Marks (fun b => b = w.heap.size) w23 w24) := by rw [hw24]; exact kput_marks _ HM.out
  replace HB := uh (HP.out.below (fun p e => by omega) HB.out)
  replace HK0 : Hid (Kp w0 Pl.kTeamR v0 w24) := by rw [hw24]; exact HK0.out.put _ HM.out (by have := HZ.out; omega)
  replace HK1 : Hid (Kp w0 Pl.kBerthR v1 w24) := by rw [hw24]; exact HK1.out.put _ HM.out (by have := HZ.out; omega)
  replace HK2 : Hid (Kp w0 Pl.kServiceR v2 w24) := by rw [hw24]; exact HK2.out.put _ HM.out (by have := HZ.out; omega)
  replace HM : Hid (w24.heap[w.heap.size]? = some (.map #[⟨.string { data := #[116, 101, 97, 109] }, .agg #[v0], 0⟩, ⟨.string { data := #[98, 101, 114, 116, 104] }, .agg #[v1], 1⟩, ⟨.string { data := #[115, 101, 114, 118, 105, 99, 101] }, .agg #[v2], 2⟩] 3)) := by rw [hw24]; exact kput_at _ (Array.getElem?_eq_some_iff.1 HM.out).1
  clear HP hw24 hi
  have HA : Hid (Acc w24 w24 [] [] []) := Acc.nil w24
  have HQ : Hid (w0.heap.size ≤ w24.heap.size) := by have := (Array.getElem?_eq_some_iff.1 HM.out).1; have := HZ.out; show _ ≤ _; omega
  go_wp2
  go_ret
  exact ⟨_, w0, v0, v1, v2, rfl, HM.out, by have := HZ.out; omega, HK0.out, HK1.out, HK2.out, HB.out⟩

end Go.Proofs.Ytojcopamegmeeaa
