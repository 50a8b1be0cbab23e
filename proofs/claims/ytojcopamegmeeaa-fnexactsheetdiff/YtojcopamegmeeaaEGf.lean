/-
  Sheets: a block's place, the lines of a key: the specification.
-/
import Derived.Test.YtojcopamegmeeaaEPg
import Derived.Test.YtojcopamegmeeaaECl
import Derived.Test.YtojcopamegmeeaaEFd
import Derived.Test.YtojcopamegmeeaaUB
namespace Go.Proofs.Ytojcopamegmeeaa
open Go.RowKit Go.Deep

set_option maxHeartbeats 4000000 in
theorem l39FindS (s : List Pl.Bl) (v : Value) (kind name : ByteArray) (w : World) (h : Raw w shBls [blsD s] [v]) :
    Calls Try.prog 15 #[.agg #[v], .string kind, .string name] w fun e w' => e = .returned (.int .i64 (Pl.ixI (Pl.findB s kind name))) ∧ Below w.heap.size w w' := by
  have HL := uh h
  obtain ⟨va, vc, ev⟩ := h.len0
  subst ev
  clear h
  obtain ⟨n, hn⟩ : ∃ n, n = s.length := ⟨_, rfl⟩
  have HN := uh hn
  have hnn : s.length = n := hn.symm
  clear hn
  rw [hnn]
  clear hnn
  obtain ⟨wa, hwa⟩ : ∃ wa, wa = w.alloc (.cells #[.slice va n vc] 30) := ⟨_, rfl⟩
  have HBA : Hid (Below w.heap.size w wa) := by show Below _ _ _; rw [hwa]; exact blw_alloc (Below.refl _ _) _
  have HB0 : Hid (LBox wa w.heap.size [.slice va n vc]) := by show LBox _ _ _; rw [hwa]; exact LBox.new w #[.slice va n vc] _ _ rfl
  go_enter Try.func15, Try.ntmps15
  go_upto_region 1 with fail
  rw [← hwa]
  clear hwa
  have x0 := HB0.out.get 0 _ rfl
  have xl := HB0.out.lt
  obtain ⟨b0, hb0⟩ : ∃ b0, b0 = w.heap.size := ⟨_, rfl⟩
  rw [← hb0] at x0 xl ⊢
  have HBZ := uh hb0
  clear hb0
  go_wp2
  go_loop [7] (fun i => ∃ k : Nat, k ≤ n ∧ i = .int .i64 k ∧ Pl.findB s kind name = Pl.findF kind name (s.drop k) k) (fun i => n - (intOf i).toNat)
  case atStart => exact ⟨0, Nat.zero_le _, rfl, rfl⟩
  case round =>
    obtain ⟨k, hk, rfl, hI⟩ := hrel
    have HI := uh hI
    clear hI
    by_cases hlt : k < n
    rotate_left
    · have HX : Hid (-1 = Pl.ixI (Pl.findB s kind name)) := by
        show _ = _
        obtain rfl : k = s.length := by have := HN.out; omega
        rw [Pl.findB_end HI.out]; rfl
      go_wp2
      go_ret
      exact ⟨Pl.ret_int HX.out, HBZ.out ▸ HBA.out⟩
    have hkL : k < s.length := by have := HN.out; omega
    rcases bls_open (HL.out.later HBA.out) with ⟨e0, _⟩ | ⟨p, o, c, hv, hp, hml, hopen⟩
    · omega
    rw [← HN.out] at hv hml
    injection hv with g1 _ g3
    subst g1; subst g3
    unfold maxLen at hml
    obtain ⟨ax, cx, hgx, hrx⟩ := hopen k hkL
    have HM := uh (fun (h : Pl.isB kind name (s.getD k Pl.blNo) = false) => Pl.findB_miss hkL HI.out h)
    have HH := uh (fun (h : Pl.isB kind name (s.getD k Pl.blNo) = true) => Pl.findB_hit hkL HI.out h)
    obtain ⟨x, hx⟩ : ∃ x, x = s.getD k Pl.blNo := ⟨_, rfl⟩
    rw [← hx] at hgx hrx HM HH
    have y0 : wa.cell? ⟨p, o + k * 3, none⟩ = some (.string x.kind) := rA_get hgx 0 _ rfl
    have y1 : wa.cell? ⟨p, o + k * 3 + 1, none⟩ = some (.string x.name) := rA_get hgx 1 _ rfl
    have hk0 : (0 : Int) ≤ (k : Int) := by omega
    have hkn : (k : Int) < (n : Int) := by omega
    have HB : Hid (Pl.isB kind name x = ((x.kind.toList == kind.toList) && (x.name.toList == name.toList))) := rfl
    clear hx hopen hgx hrx
    cases h1 : (x.kind.toList == kind.toList)
    · have HX := uh (HM.out (by rw [HB.out, h1]; rfl))
      go_wp2
      go_round
      case rel => exact ⟨k + 1, by omega, by go_num, HX.out⟩
      case measure => simp [intOf]; omega
    cases h2 : (x.name.toList == name.toList)
    · have HX := uh (HM.out (by rw [HB.out, h1, h2]; rfl))
      go_wp2
      go_round
      case rel => exact ⟨k + 1, by omega, by go_num, HX.out⟩
      case measure => simp [intOf]; omega
    · have HX : Hid ((k : Int) = Pl.ixI (Pl.findB s kind name)) := by show _ = _; rw [HH.out (by rw [HB.out, h1, h2]; rfl)]; rfl
      go_wp2
      go_ret
      exact ⟨Pl.ret_int HX.out, HBZ.out ▸ HBA.out⟩

/-- A row of one's own whose elements were there before. -/
structure Sv (wa W : World) (t : TypeId) (sh : List Sh) (v : Value) (n : Nat) (es : List Dt) (xs : List Value) : Prop where
  row : W.ownsRow wa.heap.size t sh.length v n xs
  raw : Raw wa (reps n sh) es xs
theorem Sv.later {wa W W' : World} {t : TypeId} {sh : List Sh} {v : Value} {n : Nat} {es : List Dt} {xs : List Value} (h : Sv wa W t sh v n es xs) (hb : Below W.heap.size W W') : Sv wa W' t sh v n es xs := ⟨owns_lt_later h.row hb, h.raw⟩
theorem Sv.emp {wa W : World} {g : Nat} {t : TypeId} (sh : List Sh) (hg : W.heap[g]? = some (.cells #[] t (0, 0))) (hl : wa.heap.size ≤ g) : Sv wa W t sh (.slice (some ⟨g, 0, none⟩) 0 0) 0 [] [] := ⟨(Gr.emp sh hg hl).row, .nil⟩
theorem Sv.shape {wa W : World} {t : TypeId} {sh : List Sh} {v : Value} {n : Nat} {es : List Dt} {xs : List Value} (h : Sv wa W t sh v n es xs) : ∃ a c, v = .slice a n c := by
  rcases h.row.2 with ⟨e, rfl⟩ | ⟨_, _, _, e, _⟩
  · exact ⟨_, _, e⟩
  · exact ⟨_, _, e⟩
theorem Sv.done {wa W : World} {t : TypeId} {sh : List Sh} {v : Value} {n : Nat} {es : List Dt} {xs : List Value} (h : Sv wa W t sh v n es xs) (hb : Below wa.heap.size wa W) : Raw W [.row t sh] [.row n es] [v] := by
  rcases h.row.2 with ⟨rfl, rfl⟩ | ⟨g, cap, cur, rfl, q2, q3, q4, q5, q6, q7⟩
  · have hr := h.raw
    rw [reps_zero] at hr
    cases hr
    exact .emp _ _ none 0 .nil
  · refine .row t sh g 0 n cap xs es (Array.getElem?_eq_some_iff.1 q3).1 ⟨Nat.le_trans q4 q5, q4⟩ ?_ (h.raw.later hb) .nil
    intro j x hx
    rw [← q7] at hx
    have hl : j < n * sh.length := by have := (List.getElem?_eq_some_iff.1 hx).1; rw [List.length_take] at this; omega
    rw [List.getElem?_take_of_lt hl] at hx
    rw [Nat.zero_add]
    simp only [World.cell?, q3]
    simpa using hx
theorem Sv.below {wa W W' : World} {t : TypeId} {sh : List Sh} {v : Value} {n : Nat} {es : List Dt} {xs : List Value} (h : Sv wa W t sh v n es xs) (hb : Below wa.heap.size wa W) (hg : W.grownBy W' v.ownBlock) : Below wa.heap.size wa W' :=
  blw_grown hb hg fun _ hb => (owns_blk_lt h.row hb).1
/-- One line more. -/
theorem sv_push {wa w : World} {ops : Array Oper} {rest : List Oper} {o : Oper} {a : Act} {Q : Exit → Act → World → Prop} (hgd : o.guard = none) (s x : Operand)
    (ho : o.op = .call { callee := .builtin .append, args := #[s, x], argTypes := #[40, 40] }) (v : Value) (n : Nat) (es : List Dt) (xs : List Value) (hs : a.eval s = v) (hown : Sv wa w 69 shSheetLine v n es xs)
    (B c : Nat) (e : List Dt) (cs : List Value) (hx : a.eval x = .slice (some ⟨B, 0, none⟩) 1 c) (hr : Raw wa shSheetLine e cs) (hnews : ∀ j u, cs[j]? = some u → w.cell? ((⟨B, 0, none⟩ : Addr).add j) = some u)
    (h63 : n ≤ 8388608) (hlo : wa.heap.size ≤ w.heap.size)
    (h : ∀ g cap w', Sv wa w' 69 shSheetLine (.slice (some ⟨g, 0, none⟩) (n + 1) cap) (n + 1) (es ++ e) (xs ++ cs) → w.grownBy w' v.ownBlock → wpList Try.prog ops Q rest (a.put o.dst (.slice (some ⟨g, 0, none⟩) (n + 1) cap)) w') : wpList Try.prog ops Q (o :: rest) a w := by
  obtain ⟨i0, hi, hz0, hz1, hz2⟩ := uinfo Try.info_line
  refine wpList_append_lies w hgd s x 40 ho wa.heap.size 69 i0 _ 2 40 Try.under_lines hi hz0 hz1 hz2 rfl (by omega) v n xs hs hown.row ⟨B, 0, none⟩ 1 c cs hx (by rw [hr.len]; rfl) hnews
    (fun u hu => hr.one u hu) (by decide) (by unfold maxLen; omega) (by omega) hlo _ rfl fun g cap w' q1 q2 _ _ => h g cap w' ⟨q1, ?_⟩ q2
  rw [reps_snoc]
  exact hown.raw.app hr

end Go.Proofs.Ytojcopamegmeeaa
