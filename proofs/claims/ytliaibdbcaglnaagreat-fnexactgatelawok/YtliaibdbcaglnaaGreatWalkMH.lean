/-
  Walks: what the mends of a field read; the row of a shape's fields.
-/
import Derived.Test.YtliaibdbcaglnaaGreatWalkMG
namespace Go.Proofs.YtliaibdbcaglnaaGreat
open Go.RowKit Go.Deep

def places (x : Mng) : List Nat := x.needs.map Need.place
def rdTo (L : List Mng) (p k : Nat) : List Nat := (L.take k).flatMap fun x => if x.field = p then places x else []
def rdOf (L : List Mng) (p : Nat) : List Nat := L.flatMap fun x => if x.field = p then places x else []

theorem rdTo_succ (L : List Mng) (p k : Nat) (hk : k < L.length) : rdTo L p (k + 1) = rdTo L p k ++ (if (L.getD k Mng.none).field = p then places (L.getD k Mng.none) else []) := by
  have e : L.getD k Mng.none = L[k] := by simp [hk]
  unfold rdTo
  rw [e, List.take_succ_eq_append_getElem hk, List.flatMap_append]
  simp
theorem rdTo_all (L : List Mng) (p k : Nat) (hk : L.length ≤ k) : rdTo L p k = rdOf L p := by unfold rdTo rdOf; rw [List.take_of_length_le hk]

theorem rdTo_len (L : List Mng) (p : Nat) (h2 : ∀ x ∈ L, x.needs.length ≤ 2) : ∀ k, (rdTo L p k).length ≤ 2 * k
  | 0 => by simp [rdTo]
  | k + 1 => by
    have ih := rdTo_len L p h2 k
    by_cases hk : k < L.length
    · rw [rdTo_succ L p k hk, List.length_append]
      have hm : L.getD k Mng.none ∈ L := by simp [hk]
      obtain ⟨y, hy⟩ : ∃ y, y = L.getD k Mng.none := ⟨_, rfl⟩
      rw [← hy] at hm ⊢
      have := h2 _ hm
      split
      · simp [places]; omega
      · simp; omega
    · have e : rdTo L p (k + 1) = rdTo L p k := by unfold rdTo; rw [List.take_of_length_le (by omega), List.take_of_length_le (by omega)]
      rw [e]; omega

/-- Needs that are read. -/
def NeedsAt (w : World) (v : Value) (ns : List Need) : Prop :=
  (ns = [] ∧ ∃ a c, v = .slice a 0 c) ∨ ∃ g c, v = .slice (some ⟨g, 0, none⟩) ns.length c ∧ g < w.heap.size ∧ ∀ i, i < ns.length →
    w.cell? ⟨g, i * 3, none⟩ = some (.int .i64 ((ns.getD i ⟨0, false, ByteArray.empty⟩).place : Nat)) ∧ w.cell? ⟨g, i * 3 + 1, none⟩ = some (.bool (ns.getD i ⟨0, false, ByteArray.empty⟩).anyth) ∧ w.cell? ⟨g, i * 3 + 2, none⟩ = some (.string (ns.getD i ⟨0, false, ByteArray.empty⟩).is_)

theorem NeedsOwn.at_ {w : World} {lo : Nat} {v : Value} {ns : List Need} (h : NeedsOwn w lo v ns) : NeedsAt w v ns := by
  have hcs : ∀ g, v.ownBlock = some g → ∀ j u, (needsCells ns)[j]? = some u → w.cell? ((⟨g, 0, none⟩ : Addr).add j) = some u := fun g hg => World.ownsRow.cells h hg
  rcases h.2 with ⟨rfl, hn⟩ | ⟨g, cap, cur, rfl, _, hg, _⟩
  · exact Or.inl ⟨List.length_eq_zero_iff.1 hn, _, _, rfl⟩
  · refine Or.inr ⟨g, cap, rfl, (Array.getElem?_eq_some_iff.1 hg).1, fun i hi => ?_⟩
    have q : ∀ j u, j < 3 → (needCells (ns.getD i ⟨0, false, ByteArray.empty⟩))[j]? = some u → w.cell? ⟨g, i * 3 + j, none⟩ = some u := by
      intro j u hj hu
      have := hcs g rfl (i * 3 + j) u (by rw [needsCells_at ns i j hi hj]; exact hu)
      rw [Addr.add_lit, Nat.zero_add] at this
      exact this
    exact ⟨q 0 _ (by omega) rfl, q 1 _ (by omega) rfl, q 2 _ (by omega) rfl⟩

theorem NeedsAt.later {w w' : World} {v : Value} {ns : List Need} (h : NeedsAt w v ns) (hb : Below w.heap.size w w') : NeedsAt w' v ns := by
  rcases h with h | ⟨g, c, rfl, h1, h2⟩
  · exact Or.inl h
  · exact Or.inr ⟨g, c, rfl, Nat.lt_of_lt_of_le h1 hb.size, fun i hi => ⟨(hb.cell (p := ⟨g, _, none⟩) h1).trans (h2 i hi).1, (hb.cell (p := ⟨g, _, none⟩) h1).trans (h2 i hi).2.1, (hb.cell (p := ⟨g, _, none⟩) h1).trans (h2 i hi).2.2⟩⟩

structure MngIs (w : World) (g o : Nat) (x : Mng) (a : Option Addr) (c : Nat) : Prop where
  c0 : w.cell? ⟨g, o, none⟩ = some (.int .i64 (x.field : Nat))
  c1 : w.cell? ⟨g, o + 1, none⟩ = some (.slice a x.needs.length c)
  c2 : w.cell? ⟨g, o + 2, none⟩ = some (.string x.put)
  c3 : w.cell? ⟨g, o + 3, none⟩ = some (.int .i64 (x.frm : Nat))
  needs : NeedsAt w (.slice a x.needs.length c) x.needs

theorem MngIs.later {w w' : World} {g o : Nat} {x : Mng} {a : Option Addr} {c : Nat} (h : MngIs w g o x a c) (hb : Below w.heap.size w w') (hlt : g < w.heap.size) : MngIs w' g o x a c := by
  have q : ∀ j, w'.cell? ⟨g, j, none⟩ = w.cell? ⟨g, j, none⟩ := fun j => hb.cell (p := ⟨g, j, none⟩) hlt
  exact ⟨(q _).trans h.c0, (q _).trans h.c1, (q _).trans h.c2, (q _).trans h.c3, h.needs.later hb⟩

def MngsAt (w : World) (v : Value) (L : List Mng) : Prop :=
  (L = [] ∧ ∃ a c, v = .slice a 0 c) ∨ ∃ g c, v = .slice (some ⟨g, 0, none⟩) L.length c ∧ g < w.heap.size ∧ ∀ i, i < L.length → ∃ a d, MngIs w g (i * 4) (L.getD i Mng.none) a d

theorem MngsAt.later {w w' : World} {v : Value} {L : List Mng} (h : MngsAt w v L) (hb : Below w.heap.size w w') : MngsAt w' v L := by
  rcases h with h | ⟨g, c, rfl, h1, h2⟩
  · exact Or.inl h
  · refine Or.inr ⟨g, c, rfl, Nat.lt_of_lt_of_le h1 hb.size, fun i hi => ?_⟩
    obtain ⟨a, d, h3⟩ := h2 i hi
    exact ⟨a, d, h3.later hb h1⟩

theorem MngsOwn.at_ {w : World} {lo : Nat} {v : Value} {L : List Mng} (h : MngsOwn w lo v L) : MngsAt w v L := by
  obtain ⟨xs, h1, h2⟩ := h
  have hcs : ∀ g, v.ownBlock = some g → ∀ j u, xs[j]? = some u → w.cell? ((⟨g, 0, none⟩ : Addr).add j) = some u := fun g hg => World.ownsRow.cells h1 hg
  rcases h1.2 with ⟨rfl, hn⟩ | ⟨g, cap, cur, rfl, _, hg, _⟩
  · exact Or.inl ⟨List.length_eq_zero_iff.1 hn, _, _, rfl⟩
  · refine Or.inr ⟨g, cap, rfl, (Array.getElem?_eq_some_iff.1 hg).1, fun i hi => ?_⟩
    obtain ⟨a, c, q0, q1, q2, q3, q4⟩ := h2 i hi
    have q : ∀ j u, xs[j]? = some u → w.cell? ⟨g, j, none⟩ = some u := by
      intro j u hu
      have := hcs g rfl j u hu
      rw [Addr.add_lit, Nat.zero_add] at this
      exact this
    exact ⟨a, c, q _ _ q0, q _ _ q1, q _ _ q2, q _ _ q3, q4.at_⟩

theorem IntsOwn.later {w w' : World} {lo : Nat} {v : Value} {l : List Nat} (h : IntsOwn w lo v l) (hb : Below w.heap.size w w') : IntsOwn w' lo v l := owns_later h hb

set_option maxRecDepth 8000 in
set_option maxHeartbeats 4000000 in
theorem readsI_row (mb g cap p : Nat) (L : List Mng) (w : World) (hc : w.cell? ⟨mb, 0, none⟩ = some (.slice (some ⟨g, 0, none⟩) L.length cap)) (hg : g < w.heap.size) (hL : ∀ i, i < L.length → ∃ a d, MngIs w g (i * 4) (L.getD i Mng.none) a d) (hl : L.length ≤ 12) (h2 : ∀ x ∈ L, x.needs.length ≤ 2) :
    Calls Tryz.prog 123 #[.int .i64 (p : Nat), .pointer (some ⟨mb, 0, none⟩)] w fun e w' => (∃ a n c, e = .returned (.slice a n c) ∧ IntsAt w' (.slice a n c) (rdOf L p)) ∧ Below w.heap.size w w' := by
  have HL : Hid ((∀ i, i < L.length → ∃ a d, MngIs w g (i * 4) (L.getD i Mng.none) a d) ∧ ∀ x ∈ L, x.needs.length ≤ 2) := ⟨hL, h2⟩
  obtain ⟨i0, hi, hz0, hz1, hz2⟩ := info_parts Tryz.info3
  clear hL h2
  go_enter Tryz.func123, Tryz.ntmps123
  go_wp2
  clear hc
  go_loopw [4, 11] (fun v i wr => ∃ (k : Nat) (a : Option Addr) (c : Nat), k ≤ L.length ∧ i = .int .i64 k ∧ v = .slice a (rdTo L p k).length c ∧ IntsOwn wr w.heap.size v (rdTo L p k) ∧ Below w.heap.size w wr) (fun _ i _ => L.length - (intOf i).toNat)
  case atStart => exact ⟨0, none, 0, Nat.zero_le _, rfl, rfl, World.ownsRow_nil _ _ _ _, Below.refl _ _⟩
  case round =>
    obtain ⟨k, a, c, hk, rfl, rfl, hO, hW⟩ := hrel
    have HO : Hid (IntsOwn wr w.heap.size (.slice a (rdTo L p k).length c) (rdTo L p k)) := hO
    have HW : Hid (Below w.heap.size w wr) := hW
    have HT : Hid ((rdTo L p k).length ≤ 2 * k) := rdTo_len L p HL.out.2 k
    clear hO
    by_cases hlt : k < L.length
    · obtain ⟨ax, dx, hx0⟩ := HL.out.1 k hlt
      obtain ⟨x, hxx⟩ : ∃ x, x = L.getD k Mng.none := ⟨_, rfl⟩
      rw [← hxx] at hx0
      have hx := hx0.later hW hg
      have HX : Hid (x = L.getD k Mng.none ∧ x.needs.length ≤ 2) := ⟨hxx, HL.out.2 x (by rw [hxx]; simp [hlt])⟩
      have HS : Hid (rdTo L p (k + 1) = rdTo L p k ++ (if x.field = p then places x else [])) := by have := rdTo_succ L p k hlt; rw [← hxx] at this; exact this
      have hgw : g < wr.heap.size := Nat.lt_of_lt_of_le hg hW.size
      obtain ⟨c0, c1, c2, c3, _⟩ := hx
      have HND : Hid (NeedsAt w (.slice ax x.needs.length dx) x.needs) := hx0.needs
      clear hxx hx0 hW
      by_cases heq : (x.field : Int) = (p : Int)
      · have HS' : Hid (rdTo L p (k + 1) = rdTo L p k ++ places x) := by have := HS.out; rw [if_pos (by omega)] at this; exact this
        clear HS
        have hn2 : x.needs.length ≤ 2 := HX.out.2
        go_wp2
        clear c0 c1 c2 c3
        obtain ⟨l, hll⟩ : ∃ l, l = rdTo L p k := ⟨_, rfl⟩
        rw [← hll] at HS' HO HT ⊢
        clear hll
        go_loopw [4, 22] (fun v i wq => ∃ (j : Nat) (a : Option Addr) (c : Nat), j ≤ x.needs.length ∧ i = .int .i64 j ∧ v = .slice a (l ++ (places x).take j).length c ∧ IntsOwn wq w.heap.size v (l ++ (places x).take j) ∧ Below w.heap.size w wq) (fun _ i _ => x.needs.length - (intOf i).toNat)
        case atStart => exact ⟨0, a, c, Nat.zero_le _, rfl, by simp, by simpa using HO.out.later (blw_alloc (Below.refl _ _) _), blw_alloc HW.out _⟩
        case round =>
          obtain ⟨j, aj, cj, hj, rfl, rfl, hOj, hWj⟩ := hrel
          rename World => wq
          have HOj : Hid (IntsOwn wq w.heap.size (.slice aj (l ++ (places x).take j).length cj) (l ++ (places x).take j)) := hOj
          have HWj : Hid (Below w.heap.size w wq) := hWj
          have HTj : Hid ((l ++ (places x).take j).length ≤ 2 * k + 2) := by show (l ++ (places x).take j).length ≤ 2 * k + 2; have := HT.out; rw [List.length_append, List.length_take]; simp [places]; omega
          clear hOj
          by_cases hjl : j < x.needs.length
          · rcases HND.out with ⟨e0, _⟩ | ⟨g2, c2, e0, hg2, hcs⟩
            · rw [e0] at hjl; exact absurd hjl (Nat.not_lt_zero j)
            injection e0 with e1 e2 e3
            subst e1 e3
            obtain ⟨d0, d1, d2⟩ := hcs j hjl
            have d0 := (hWj.cell (p := ⟨g2, j * 3, none⟩) hg2).trans d0
            have d1 := (hWj.cell (p := ⟨g2, j * 3 + 1, none⟩) hg2).trans d1
            have d2 := (hWj.cell (p := ⟨g2, j * 3 + 2, none⟩) hg2).trans d2
            obtain ⟨y, hy⟩ : ∃ y, y = x.needs.getD j ⟨0, false, ByteArray.empty⟩ := ⟨_, rfl⟩
            rw [← hy] at d0 d1 d2
            have hgq : g2 < wq.heap.size := Nat.lt_of_lt_of_le hg2 hWj.size
            have HP : Hid (l ++ (places x).take (j + 1) = (l ++ (places x).take j) ++ [y.place]) := by
              show l ++ (places x).take (j + 1) = (l ++ (places x).take j) ++ [y.place]
              have hjp : j < (places x).length := by simpa [places] using hjl
              rw [List.take_succ_eq_append_getElem hjp, ← List.append_assoc]
              congr 2
              simp [places, hy, hjl]
            obtain ⟨lj, hlj⟩ : ∃ lj, lj = l ++ (places x).take j := ⟨_, rfl⟩
            rw [← hlj] at HP HOj HTj ⊢
            have hlen : lj.length ≤ 2 * k + 2 := HTj.out
            have HWw : Hid (Below w.heap.size w wq) := HWj.out
            have hsz := HWw.out.size
            clear hlj hy hcs hWj
            go_wp2_with (at_builtin; refine wpList_append_own _ rfl _ _ 107 rfl w.heap.size 3 i0 (.int .i64 0) 1 8 Tryz.underlying107 hi hz0 hz1 hz2 rfl (by decide) (.slice aj lj.length cj) lj.length (lj.map fun n => Value.int .i64 (n : Nat)) rfl ?c0 ⟨wq.heap.size + 1, 0, none⟩ 1 1 [.int .i64 (y.place : Nat)] rfl ?c1 ?c2 ?c3 ?c4 ?c5 ?c6 ?_)
            case c0 => exact HOj.out.later (blw_alloc (blw_alloc (Below.refl _ _) _) _)
            case c3 => rfl
            case c4 => unfold maxLen; omega
            case c5 => omega
            case c6 => omega
            intro v' w3 hown hgrow _
            obtain ⟨a3, d3, hv3⟩ := owns_slice hown
            subst hv3
            have HN : Hid (IntsOwn w3 w.heap.size (.slice a3 (lj.length + 1) d3) (lj ++ [y.place])) := by
              show w3.ownsRow _ _ _ _ _ _
              rw [List.length_append, List.map_append]
              exact hown
            have HB3 : Hid (Below w.heap.size w w3) := Below.grown (blw_alloc (blw_alloc HWj.out _) _) hgrow (blw_alloc (blw_alloc HWj.out _) _).size (fun q hq => (World.ownsRow.lt HOj.out q hq).1)
            clear hown hgrow
            go_wp2
            go_roundw
            case rel => exact ⟨j + 1, a3, d3, by omega, by go_num, by rw [HP.out, List.length_append]; rfl, by rw [HP.out]; exact HN.out, HB3.out⟩
            case measure => simp [intOf]; omega
          · have HE : Hid (rdTo L p (k + 1) = l ++ (places x).take j) := by
              show rdTo L p (k + 1) = _
              rw [HS'.out, List.take_of_length_le (by simp [places]; omega)]
            go_wp2
            go_roundw
            case rel => first | exact ⟨k + 1, aj, cj, by omega, by go_num, by rw [HE.out], by rw [HE.out]; exact HOj.out, HWj.out⟩ | ((repeat apply Exists.intro); exact ⟨⟨k + 1, aj, cj, by omega, by go_num, by rw [HE.out], by rw [HE.out]; exact HOj.out, HWj.out⟩, rfl⟩)
            case measure => simp [intOf]; omega
      · have HS' : Hid (rdTo L p (k + 1) = rdTo L p k) := by show rdTo _ _ _ = _; have := HS.out; rw [if_neg (by omega)] at this; simpa using this
        clear HS
        go_wp2
        go_roundw
        case rel => exact ⟨k + 1, a, c, by omega, by go_num, by rw [HS'.out], by rw [HS'.out]; exact HO.out.later (blw_alloc (Below.refl _ _) _), blw_alloc HW.out _⟩
        case measure => simp [intOf]; omega
    · have HE : Hid (rdTo L p k = rdOf L p) := rdTo_all _ _ _ (by omega)
      go_wp2
      go_ret
      refine ⟨⟨a, _, c, rfl, ?_⟩, HW.out⟩
      rw [← HE.out]
      exact HO.out.at_ (by have := HT.out; omega)

set_option maxHeartbeats 400000 in
theorem readsI_nil (mb p : Nat) (a : Option Addr) (c : Nat) (w : World) (hc : w.cell? ⟨mb, 0, none⟩ = some (.slice a 0 c)) :
    Calls Tryz.prog 123 #[.int .i64 (p : Nat), .pointer (some ⟨mb, 0, none⟩)] w fun e w' => e = .returned (.slice none 0 0) ∧ w = w' := by
  go_enter Tryz.func123, Tryz.ntmps123
  go_wp2
  refine wp_loop_rounds 1 ?_
  rw [rounds_succ]
  go_wp2
  go_ret
  exact ⟨rfl, rfl⟩

theorem readsI (mb p : Nat) (v : Value) (L : List Mng) (w : World) (hc : w.cell? ⟨mb, 0, none⟩ = some v) (h : MngsAt w v L) (hl : L.length ≤ 12) (h2 : ∀ x ∈ L, x.needs.length ≤ 2) :
    Calls Tryz.prog 123 #[.int .i64 (p : Nat), .pointer (some ⟨mb, 0, none⟩)] w fun e w' => (∃ a n c, e = .returned (.slice a n c) ∧ IntsAt w' (.slice a n c) (rdOf L p)) ∧ Below w.heap.size w w' := by
  rcases h with ⟨rfl, a, c, rfl⟩ | ⟨g, c, rfl, h1, h3⟩
  · refine (readsI_nil mb p a c w hc).mono ?_
    rintro e w' ⟨rfl, rfl⟩
    exact ⟨⟨_, _, _, rfl, Or.inl ⟨rfl, _, _, rfl⟩⟩, Below.refl _ _⟩
  · exact readsI_row mb g c p L w hc h1 h3 hl h2

theorem make_ints (n : Nat) (h : n ≤ 1048576) (W : World) :
    (Instr.makeSlice 107 (.int .i64 (n : Int)) (.int .i64 (n : Int))).run Tryz.prog W = .ok (.slice (some ⟨W.heap.size, 0, none⟩) n n) (W.alloc (.cells (madeCells #[.int .i64 0] n) 3)) :=
  run_make_row' 107 3 (.int .i64 0) 8 Tryz.underlying107 Tryz.info3 rfl .i64 .i64 n (by omega) (by omega) W

theorem put_ints (cs : Array Value) (n k : Nat) (hsz : cs.size = n) (hk : k < n) (h : ∀ j, j < k → cs[j]? = some (.int .i64 (j : Nat))) :
    (cs.setIfInBounds k (.int .i64 (k : Nat))).size = n ∧ ∀ j, j < k + 1 → (cs.setIfInBounds k (.int .i64 (k : Nat)))[j]? = some (.int .i64 (j : Nat)) := by
  refine ⟨by simpa using hsz, fun j hj => ?_⟩
  rw [Array.getElem?_setIfInBounds]
  by_cases e : k = j
  · subst e; rw [if_pos rfl, if_pos (by omega)]
  · rw [if_neg e]; exact h j (by omega)

end Go.Proofs.YtliaibdbcaglnaaGreat
