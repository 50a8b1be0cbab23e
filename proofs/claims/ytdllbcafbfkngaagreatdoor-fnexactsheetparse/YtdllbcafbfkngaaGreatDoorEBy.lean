/-
  Rows of bytes of one's own: made, grown, turned into a text.
-/
import Derived.Test.YtdllbcafbfkngaaGreatDoorProg
import Derived.RowKit
import Derived.WalkKit
import Derived.WalkSpells
import Derived.WalkLawsBesides
import Derived.Laws.IdiomStrings
import Derived.Deep.RegionHeldLaw
import Derived.Test.YtdllbcafbfkngaaGreatDoorEPl
import Derived.Test.YtdllbcafbfkngaaGreatDoorUC
import Derived.Test.YtdllbcafbfkngaaGreatDoorRgF
namespace Go.Proofs.YtdllbcafbfkngaaGreatDoor
open Go.RowKit Go.Deep

set_option maxHeartbeats 1000000 in
theorem l37In_any (n lo hi : Int) (w : World) :
    Calls Tryz.prog 49 #[.int .i64 n, .int .i64 lo, .int .i64 hi] w fun e w' => e = .returned (.bool (decide (lo ≤ n) && decide (n ≤ hi))) ∧ w = w' := by
  by_cases h : lo ≤ n
  all_goals
    go_enter Tryz.func49, Tryz.ntmps49
    go_wp2
    go_ret
    exact ⟨Pl.ret_bool (by rw [Bool.eq_iff_iff]; simp; try omega), rfl⟩

set_option maxHeartbeats 1000000 in
theorem l37Bare_any (c : UInt8) (w : World) :
    Calls Tryz.prog 22 #[.int .u8 c.toNat] w fun e w' => e = .returned (.bool (Pl.bareB c)) ∧ w = w' := by
  go_enter Tryz.func22, Tryz.ntmps22
  go_wp2
  all_goals go_ret
  all_goals exact ⟨Pl.ret_bool (by rw [Bool.eq_iff_iff]; simp [Pl.bareB] at *; omega), rfl⟩

end Go.Proofs.YtdllbcafbfkngaaGreatDoor

namespace Go.Proofs.YtdllbcafbfkngaaGreatDoor
open Go.RowKit Go.Deep

theorem Tryz.under_bytes : Tryz.prog.underlying 96 = some (.slice 5) := by kernel_rfl
theorem Tryz.info_byte : (Tryz.prog.info? 5).map (fun i => (i.zero, i.size, i.bytes)) = some (some (.int .u8 0), 1, 1) := by kernel_rfl
theorem uinfo {P : Program} {t : TypeId} {z : Value} {n b : Nat} (h : (P.info? t).map (fun i => (i.zero, i.size, i.bytes)) = some (some z, n, b)) : ∃ i, P.info? t = some i ∧ i.zero = some z ∧ i.size = n ∧ i.bytes = b := by
  cases hi : P.info? t with
  | none => rw [hi] at h; cases h
  | some i => rw [hi] at h; simp only [Option.map_some, Option.some.injEq, Prod.mk.injEq] at h; exact ⟨i, rfl, h.1, h.2.1, h.2.2⟩

/-- A row of bytes of one's own. -/
def By (W : World) (lo : Nat) (v : Value) (l : List UInt8) : Prop := W.ownsRow lo 5 1 v l.length (Pl.byV l)
theorem By.later {W W' : World} {lo : Nat} {v : Value} {l : List UInt8} (h : By W lo v l) (hb : Below W.heap.size W W') : By W' lo v l := owns_lt_later h hb
theorem By.nil (W : World) (lo : Nat) : By W lo (.slice none 0 0) [] := World.ownsRow_nil ..
theorem By.emp (W : World) (lo : Nat) (h : lo ≤ W.heap.size) : By (W.alloc (.cells #[] 5)) lo (.slice (some ⟨W.heap.size, 0, none⟩) 0 0) [] := World.ownsRow_made W #[] 0 h (by decide) rfl
theorem By.shape {W : World} {lo : Nat} {v : Value} {l : List UInt8} (h : By W lo v l) : ∃ a c, v = .slice a l.length c := by
  rcases h.2 with ⟨e, h0⟩ | ⟨g, cap, _, e, _⟩
  · exact ⟨none, 0, by rw [e, h0]⟩
  · exact ⟨_, _, e⟩
theorem By.str_any {W : World} {lo : Nat} {v : Value} {l : List UInt8} (h : By W lo v l) : (convert 96 9 v).run Tryz.prog W = .ok (.string ⟨l.toArray⟩) W := by
  rcases h.2 with ⟨e1, e⟩ | ⟨g, cap, cur, e, _, hg, hn, _, _, ht⟩
  · have : l = [] := List.eq_nil_of_length_eq_zero e
    subst this
    rw [e1, run_convert_bytes_string (P := Tryz.prog) W 96 9 5 none 0 0 Tryz.under_bytes (by kernel_rfl) (by kernel_rfl)]
    rfl
  · rw [e]
    refine run_convert_bytes_back (P := Tryz.prog) W 96 9 5 ⟨g, 0, none⟩ cap l Tryz.under_bytes (by kernel_rfl) (by kernel_rfl) fun j hj => ?_
    have hx : (Pl.byV l)[j]? = some (.int .u8 (l[j].toNat : Int)) := by simp [Pl.byV, hj]
    have q : cur.toList[j]? = some (.int .u8 (l[j].toNat : Int)) := by rw [← hx, ← ht, List.getElem?_take, if_pos (by omega)]
    rw [show (Addr.add ⟨g, 0, none⟩ j) = ⟨g, j, none⟩ by rw [Addr.add_mid, Nat.zero_add]]
    simp only [World.cell?, hg]
    simpa using q
theorem By.below {W w' : World} {a : World} {lo : Nat} {v : Value} {l : List UInt8} (h : By W lo v l) (hb : Below a.heap.size a W) (hg : W.grownBy w' v.ownBlock) (hlo : a.heap.size ≤ lo) : Below a.heap.size a w' :=
  Below.grown hb hg hb.size fun q hq => by have := (World.ownsRow.lt h q hq).1; omega
theorem by_push {w : World} {ops : Array Oper} {rest : List Oper} {o : Oper} {a : Act} {Q : Exit → Act → World → Prop} (hgd : o.guard = none) (s x : Operand)
    (ho : o.op = .call { callee := .builtin .append, args := #[s, x], argTypes := #[96, 96] }) (lo : Nat) (v : Value) (l : List UInt8) (hs : a.eval s = v) (hown : By w lo v l)
    (B m c : Nat) (news : List UInt8) (hx : a.eval x = .slice (some ⟨B, 0, none⟩) m c) (hl : news.length = m) (hnews : ∀ j u, (Pl.byV news)[j]? = some u → w.cell? ((⟨B, 0, none⟩ : Addr).add j) = some u)
    (hm : 0 < m) (h63 : l.length + m ≤ 1099511627776) (hlo : lo ≤ w.heap.size)
    (h : ∀ g cap w', By w' lo (.slice (some ⟨g, 0, none⟩) (l.length + m) cap) (l ++ news) → w.grownBy w' v.ownBlock → wpList Tryz.prog ops Q rest (a.put o.dst (.slice (some ⟨g, 0, none⟩) (l.length + m) cap)) w') : wpList Tryz.prog ops Q (o :: rest) a w := by
  obtain ⟨i0, hi, hz0, hz1, hz2⟩ := uinfo Tryz.info_byte
  refine wpList_append_lies w hgd s x 96 ho lo 5 i0 _ 1 1 Tryz.under_bytes hi hz0 hz1 hz2 rfl (by omega) v l.length (Pl.byV l) hs hown ⟨B, 0, none⟩ m c (Pl.byV news) hx (by rw [Pl.byV_len, hl, Nat.mul_one]) hnews
    (fun u hu => by obtain ⟨b, _, rfl⟩ := List.mem_map.1 hu; rfl) hm (by unfold maxLen; omega) (by omega) hlo _ rfl fun g cap w' q1 q2 _ _ => h g cap w' ?_ q2
  unfold By
  rw [Pl.byV_app, List.length_append, hl]
  exact q1
theorem by_run {w : World} {lo : Nat} {v : Value} {l : List UInt8} (hown : By w lo v l) (ty : TypeId)
    (B m c : Nat) (news : List UInt8) (hl : news.length = m) (cs : Array Value) (hcs : cs.toList = Pl.byV news) (hB : w.heap[B]? = some (.cells cs 5 (0, 0)))
    (hm : 0 < m) (h63 : l.length + m ≤ 1099511627776) (hlo : lo ≤ w.heap.size) :
    ∃ g cap w', (Builtin.append_ #[96, 96] ty #[v, .slice (some ⟨B, 0, none⟩) m c]).run Tryz.prog w = .ok (.slice (some ⟨g, 0, none⟩) (l.length + m) cap) w' ∧
      By w' lo (.slice (some ⟨g, 0, none⟩) (l.length + m) cap) (l ++ news) ∧ w.grownBy w' v.ownBlock := by
  obtain ⟨i0, hi, hz0, hz1, hz2⟩ := uinfo Tryz.info_byte
  obtain ⟨g, cap, w', h1, h2, h3, _⟩ := run_append_lies (P := Tryz.prog) w 96 ty lo 5 i0 _ 1 1 Tryz.under_bytes hi hz0 hz1 hz2 rfl (by omega) v l.length (Pl.byV l) hown ⟨B, 0, none⟩ m c (Pl.byV news) (by rw [Pl.byV_len, hl, Nat.mul_one]) (by rw [← hcs]; exact World.news_of_block hB)
    (fun u hu => by obtain ⟨b, _, rfl⟩ := List.mem_map.1 hu; rfl) hm (by unfold maxLen; omega) (by omega) hlo _ rfl
  refine ⟨g, cap, w', h1, ?_, h3⟩
  unfold By
  rw [Pl.byV_app, List.length_append, hl]
  exact h2
end Go.Proofs.YtdllbcafbfkngaaGreatDoor
