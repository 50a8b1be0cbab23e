/-
  Walks: putting things in a row.
-/
import Derived.Test.YtbannihkgglpaaaGreatWalkMC
import Derived.Deep.RegionLaw
namespace Go.Proofs.YtbannihkgglpaaaGreat
open Go.RowKit Go.Deep

theorem step_append_own {P : Program} {ops : Array Oper} {o : Oper} {a : Act} {w : World} {K : Act → World → Prop} {Q : Exit → Act → World → Prop} {E : Prop}
    (hg : o.guard = none) (s x : Operand) (t : TypeId) (hop : o.op = Op.call { callee := Callee.builtin Builtin.append, args := #[s, x], argTypes := #[t, t] })
    (base : Nat) (e : TypeId) (i : TypeInfo) (z : Value) (size bytes : Nat) (h1 : P.underlying t = some (.slice e)) (h2 : P.info? e = some i) (h3 : i.zero = some z) (h4 : i.size = size) (h5 : i.bytes = bytes) (h6 : z.cells.size = size) (h7 : 0 < size)
    (v : Value) (n : Nat) (xs : List Value) (hs : a.eval s = v) (hown : w.ownsRow base e size v n xs)
    (ad : Addr) (m c : Nat) (news : List Value) (hx : a.eval x = .slice (some ad) m c) (hn : news.length = m * size) (hc : ∀ j u, news[j]? = some u → w.cell? (ad.add j) = some u) (h1c : ∀ u ∈ news, u.oneCell' = true)
    (b1 : n + m ≤ maxLen) (b2 : (n + m) * bytes ≤ 140737488355328) (hbase : base ≤ w.heap.size)
    (hK : ∀ v' w', w'.ownsRow base e size v' (n + m) (xs ++ news) → w.grownBy w' v.ownBlock → K (a.put o.dst v') w') :
    if Region.wanted o (yielded ops a.tmps) = true then Oper.wp P o a w K Q else E := by
  have hw : Region.wanted o (yielded ops a.tmps) = true := by simp [Region.wanted, hg]
  rw [if_pos hw]
  obtain ⟨v', w', hrun, r1, r2, _⟩ := run_append_own (P := P) w base t o.type e i z size bytes h1 h2 h3 h4 h5 h6 h7 v n xs hown ad m c news hn hc h1c b1 b2 hbase
  unfold Oper.wp
  simp [execOp, hop, resolve, invoke, builtin, hs, hx, hrun, Result.andThen]
  exact hK v' w' r1 r2

theorem grown_of_below {w w' : World} (h : Below w.heap.size w w') : w.grownBy w' none := ⟨h.os, h.tape, h.output, h.size, fun k hk _ => h.block k hk⟩

theorem owns_later {w w' : World} {lo : Nat} {e : TypeId} {size : Nat} {v : Value} {n : Nat} {xs : List Value} (h : w.ownsRow lo e size v n xs) (hb : Below w.heap.size w w') : w'.ownsRow lo e size v n xs :=
  h.kept (grown_of_below hb) (by cases hv : v.ownBlock <;> simp)

theorem owns_slice {w : World} {lo : Nat} {e : TypeId} {size : Nat} {v : Value} {n : Nat} {xs : List Value} (h : w.ownsRow lo e size v n xs) : ∃ a c, v = .slice a n c := by
  rcases h.2 with ⟨rfl, rfl⟩ | ⟨g, cap, cur, rfl, _⟩
  · exact ⟨_, _, rfl⟩
  · exact ⟨_, _, rfl⟩

/-- A slice of numbers of the call's own. -/
def IntsOwn (w : World) (lo : Nat) (v : Value) (l : List Nat) : Prop := w.ownsRow lo 3 1 v l.length (l.map fun n => Value.int .i64 (n : Nat))

theorem IntsOwn.at_ {w : World} {lo : Nat} {v : Value} {l : List Nat} (h : IntsOwn w lo v l) (hl : l.length ≤ 1048576) : IntsAt w v l := by
  have hcs : ∀ g, v.ownBlock = some g → ∀ j u, (l.map fun n => Value.int .i64 (n : Nat))[j]? = some u → w.cell? ((⟨g, 0, none⟩ : Addr).add j) = some u := fun g hg => World.ownsRow.cells h hg
  rcases h.2 with ⟨rfl, hn⟩ | ⟨g, cap, cur, rfl, _, hg, _⟩
  · exact Or.inl ⟨List.length_eq_zero_iff.1 hn, _, _, rfl⟩
  · refine Or.inr ⟨g, cap, rfl, (Array.getElem?_eq_some_iff.1 hg).1, hl, fun i hi => ?_⟩
    have := hcs g rfl i (.int .i64 (l.getD i 0 : Nat)) (by simp [hi])
    rw [Addr.add_lit, Nat.zero_add] at this
    exact this

def readyG (rd : Nat → List Nat) (row : List Nat) (x : Nat) : Bool := !inRow row x && !(rd x).any (fun y => !inRow row y)
def nextG (rd : Nat → List Nat) (n : Nat) (row : List Nat) : Nat := firstAt (readyG rd row) (List.range n)
def rowG (rd : Nat → List Nat) (n : Nat) : Nat → List Nat
  | 0 => []
  | j + 1 => if nextG rd n (rowG rd n j) < n then rowG rd n j ++ [nextG rd n (rowG rd n j)] else rowG rd n j
def rowOk (rd : Nat → List Nat) (n : Nat) : Bool := decide ((rowG rd n n).length = n)

theorem rowG_le (rd : Nat → List Nat) (n : Nat) : ∀ j, (rowG rd n j).length ≤ j
  | 0 => by simp [rowG]
  | j + 1 => by
    have := rowG_le rd n j
    rw [rowG]; split
    · simp; omega
    · omega

theorem rowG_stuck (rd : Nat → List Nat) (n j : Nat) (h : n ≤ nextG rd n (rowG rd n j)) : ∀ k, rowG rd n (j + k) = rowG rd n j
  | 0 => rfl
  | k + 1 => by
    have := rowG_stuck rd n j h k
    rw [← Nat.add_assoc, rowG, this, if_neg (by omega)]

theorem rowOk_false (rd : Nat → List Nat) (n j : Nat) (hj : j < n) (h : n ≤ nextG rd n (rowG rd n j)) : rowOk rd n = false := by
  have e := rowG_stuck rd n j h (n - j)
  rw [Nat.add_sub_of_le (Nat.le_of_lt hj)] at e
  have := rowG_le rd n j
  unfold rowOk
  rw [e]
  simp; omega

theorem rowG_next (rd : Nat → List Nat) (n j : Nat) (h : nextG rd n (rowG rd n j) < n) : rowG rd n (j + 1) = rowG rd n j ++ [nextG rd n (rowG rd n j)] := by
  rw [rowG, if_pos h]

set_option maxHeartbeats 1000000 in
theorem readyI (rb fb mb : Nat) (l rd : List Nat) (a : Option Addr) (n c x : Nat) (w : World) (hrb : rb < w.heap.size) (hc : w.cell? ⟨rb, 0, none⟩ = some (.slice a n c)) (h : IntsAt w (.slice a n c) l)
    (hf : w.cell? ⟨fb, 0, none⟩ = some (.func (.func 76) #[] #[.pointer (some ⟨mb, 0, none⟩)]))
    (hr : Calls Tryz.prog 76 #[.int .i64 x, .pointer (some ⟨mb, 0, none⟩)] w fun e w' => (∃ a n c, e = .returned (.slice a n c) ∧ IntsAt w' (.slice a n c) rd) ∧ Below w.heap.size w w') :
    Calls Tryz.prog 90 #[.int .i64 x, .pointer (some ⟨rb, 0, none⟩), .pointer (some ⟨fb, 0, none⟩)] w fun e w' => e = .returned (.bool (!inRow l x && !rd.any (fun y => !inRow l y))) ∧ Below w.heap.size w w' := by
  have HM : Hid (∀ y W, Below w.heap.size w W → Calls Tryz.prog 91 #[.int .i64 (y : Nat), .pointer (some ⟨rb, 0, none⟩)] W fun e w' => e = .returned (.bool (!inRow l y)) ∧ W = w') :=
    fun y W hW => missing rb a n c l y W ((hW.cell (p := ⟨rb, 0, none⟩) hrb).trans hc) (h.later hW)
  have HR : Hid (Calls Tryz.prog 76 #[.int .i64 x, .pointer (some ⟨mb, 0, none⟩)] w fun e w' => (∃ a n c, e = .returned (.slice a n c) ∧ IntsAt w' (.slice a n c) rd) ∧ Below w.heap.size w w') := hr
  clear h hr hc
  cases hin : inRow l x
  · obtain ⟨R, hR⟩ : ∃ R, R = rd.any (fun y => !inRow l y) := ⟨_, rfl⟩
    rw [← hR]
    have HRR : Hid (R = rd.any (fun y => !inRow l y)) := hR
    clear hR
    go_enter Tryz.func90, Tryz.ntmps90
    go_wp2_with fail
    refine (HM.out x w (Below.refl _ _)).mono ?_
    rintro e w' ⟨rfl, rfl⟩
    rw [hin]
    go_wp2_with fail
    refine HR.out.mono ?_
    rintro e w2 ⟨⟨a2, n2, c2, rfl, hi⟩, hb2⟩
    have HI : Hid (IntsAt w2 (.slice a2 n2 c2) rd) := hi
    have HB : Hid (Below w.heap.size w w2) := hb2
    clear hi hb2
    go_wp2_with fail
    refine (containsFuncI rb (fun y => !inRow l y) (.slice a2 n2 c2) rd w2 HI.out (fun y W _ hW => (HM.out y W (blw_trans HB.out hW)).mono ?_)).mono ?_
    · rintro e w' ⟨rfl, rfl⟩
      exact ⟨rfl, Below.refl _ _⟩
    rintro e w3 ⟨rfl, hb3⟩
    rw [← HRR.out]
    have hB3 := blw_trans HB.out hb3
    clear hb3
    go_wp2
    go_ret
    exact ⟨rfl, hB3⟩
  · go_enter Tryz.func90, Tryz.ntmps90
    go_wp2_with fail
    refine (HM.out x w (Below.refl _ _)).mono ?_
    rintro e w' ⟨rfl, rfl⟩
    rw [hin]
    go_wp2
    go_ret
    exact ⟨rfl, Below.refl _ _⟩

end Go.Proofs.YtbannihkgglpaaaGreat
