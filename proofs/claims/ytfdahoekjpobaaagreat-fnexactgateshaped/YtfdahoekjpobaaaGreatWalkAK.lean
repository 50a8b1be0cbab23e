/-
  Walks: GateFill: the specification.
-/
import Derived.BigQuiet
import Derived.Test.YtfdahoekjpobaaaGreatWalkAI
namespace Go.Proofs.YtfdahoekjpobaaaGreat
open Go.RowKit Go.Deep

def hasFields (ss : List Shp) (o : Ob) : Bool := hasKind ss o.kind && decide (o.values.length = (ss.getD (kindAt ss o.kind) Shp.none).fields.length)

set_option maxHeartbeats 1000000 in
theorem l2Fields (w0 : World) (B : Nat) (ss : List Shp) (o : Ob) (b1 : Option Addr) (c1 : Nat) (b2 : Option Addr) (c2 : Nat) (w : World) (h : ShpsIn w0 B ss) (hb0 : Below w0.heap.size w0 w) :
    Calls Tryz.prog 63 #[.slice (some ⟨B, 0, none⟩) ss.length ss.length, .agg #[.string o.kind, .string o.name, .string o.team, .slice b1 o.values.length c1, .bool o.ending, .slice b2 o.holds.length c2, .int .i64 o.version]] w fun e w' => ∃ a n c, e = .returned (.tuple #[.slice a n c, .bool (hasFields ss o)]) ∧ (hasFields ss o = true → ∃ b, Value.slice a n c = .slice (some ⟨b, 0, none⟩) (ss.getD (kindAt ss o.kind) Shp.none).fields.length (ss.getD (kindAt ss o.kind) Shp.none).fields.length ∧ b < w0.heap.size ∧ ∀ i, i < (ss.getD (kindAt ss o.kind) Shp.none).fields.length → OwnFld w0 b (i * 11) ((ss.getD (kindAt ss o.kind) Shp.none).fields.getD i Fld.none)) ∧ Below w.heap.size w w' := by
  have HS : Hid (ShpsIn w0 B ss ∧ Below w0.heap.size w0 w) := ⟨h, hb0⟩
  have hl := h.len
  clear h hb0
  have HB0 : Hid (Below w.heap.size w (w.alloc (.cells #[.string o.kind, .string o.name, .string o.team, .slice b1 o.values.length c1, .bool o.ending, .slice b2 o.holds.length c2, .int .i64 o.version] 30))) := blw_alloc (Below.refl _ _) _
  have HSX : Hid (ShpsIn (w.alloc (.cells #[.string o.kind, .string o.name, .string o.team, .slice b1 o.values.length c1, .bool o.ending, .slice b2 o.holds.length c2, .int .i64 o.version] 30)) B ss) := HS.out.1.later (blw_trans HS.out.2 HB0.out)
  by_cases hk : kindAt ss o.kind < ss.length
  case neg =>
    have HF : Hid (hasFields ss o = false) := by show hasFields ss o = false; simp [hasFields, hasKind, hk]
    have HC : Hid (Calls Tryz.prog 57 #[.slice (some ⟨B, 0, none⟩) ss.length ss.length, .string o.kind] (w.alloc (.cells #[.string o.kind, .string o.name, .string o.team, .slice b1 o.values.length c1, .bool o.ending, .slice b2 o.holds.length c2, .int .i64 o.version] 30)) fun e w' => e = .returned (.int .i64 (-1)) ∧ (w.alloc (.cells #[.string o.kind, .string o.name, .string o.team, .slice b1 o.values.length c1, .bool o.ending, .slice b2 o.holds.length c2, .int .i64 o.version] 30)) = w') := by
      have := l1Shape_any B ss o.kind _ HSX.out
      rw [if_neg hk] at this
      exact this
    clear hk
    go_enter Tryz.func63, Tryz.ntmps63
    go_wp2_with fail
    refine HC.out.mono ?_
    rintro e w1 ⟨rfl, rfl⟩
    go_wp2_with fail
    go_quiet (fail)
    go_wp2
    refine bodyPost_ret (v := .tuple #[.slice (some ⟨w.heap.size + 1, 0, none⟩) 0 0, .bool false]) (by simp [results, Tryz.results63, go_sem]) rfl ?_
    exact ⟨_, _, _, by rw [HF.out], fun hh => (by rw [HF.out] at hh; cases hh), by repeat (first | exact HB0.out | refine blw_alloc ?_ _ | refine blw_drewN ?_ _)⟩
  have HC : Hid (Calls Tryz.prog 57 #[.slice (some ⟨B, 0, none⟩) ss.length ss.length, .string o.kind] (w.alloc (.cells #[.string o.kind, .string o.name, .string o.team, .slice b1 o.values.length c1, .bool o.ending, .slice b2 o.holds.length c2, .int .i64 o.version] 30)) fun e w' => e = .returned (.int .i64 (kindAt ss o.kind : Int)) ∧ (w.alloc (.cells #[.string o.kind, .string o.name, .string o.team, .slice b1 o.values.length c1, .bool o.ending, .slice b2 o.holds.length c2, .int .i64 o.version] 30)) = w') := by
    have := l1Shape_any B ss o.kind _ HSX.out
    rw [if_pos hk] at this
    exact this
  obtain ⟨k, hkk⟩ : ∃ k, k = kindAt ss o.kind := ⟨_, rfl⟩
  obtain ⟨b, _, hbl, hfl, _, _, d1, hf⟩ := HS.out.1.at_ (kindAt ss o.kind) hk
  have e1 : w.cell? ⟨B, k * 2 + 1, none⟩ = some (.slice (some ⟨b, 0, none⟩) (ss.getD (kindAt ss o.kind) Shp.none).fields.length (ss.getD (kindAt ss o.kind) Shp.none).fields.length) := by rw [hkk]; exact (HS.out.2.cell (p := ⟨B, _, none⟩) HS.out.1.lt).trans d1
  have hB : B < w.heap.size := Nat.lt_of_lt_of_le HS.out.1.lt HS.out.2.size
  obtain ⟨fs, hfs⟩ : ∃ fs, fs = (ss.getD (kindAt ss o.kind) Shp.none).fields := ⟨_, rfl⟩
  have HP : Hid (b < w0.heap.size ∧ (∀ i, i < fs.length → OwnFld w0 b (i * 11) (fs.getD i Fld.none)) ∧ fs = (ss.getD (kindAt ss o.kind) Shp.none).fields) := ⟨hbl, by rw [hfs]; exact hf, hfs⟩
  have HF : Hid (hasFields ss o = decide (o.values.length = fs.length)) := by show hasFields ss o = _; unfold hasFields hasKind; rw [hfs]; simp [hk]
  rw [← hfs] at e1 hfl
  rw [← hkk] at hk HC
  clear hkk hfs hf d1 hbl HSX
  by_cases heq : o.values.length = fs.length
  case neg =>
    have hne : (((fs.length : Int)) != (o.values.length : Int)) = true := by simp; omega
    have hk0 : decide ((k : Int) < 0) = false := by simp
    go_enter Tryz.func63, Tryz.ntmps63
    go_wp2_with fail
    refine HC.out.mono ?_
    rintro e w1 ⟨rfl, rfl⟩
    go_wp2_with fail
    go_quiet (fail)
    go_wp2
    refine bodyPost_ret (v := .tuple #[.slice (some ⟨w.heap.size + 1, 0, none⟩) 0 0, .bool false]) (by simp [results, Tryz.results63, go_sem]) rfl ?_
    exact ⟨_, _, _, by rw [HF.out, decide_eq_false heq], fun hh => (by rw [HF.out] at hh; simp [heq] at hh), by repeat (first | exact HB0.out | refine blw_alloc ?_ _ | refine blw_drewN ?_ _)⟩
  have hne : (((fs.length : Int)) != (o.values.length : Int)) = false := by simp; omega
  have hk0 : decide ((k : Int) < 0) = false := by simp
  have HQ : Hid (o.values.length = fs.length) := heq
  clear heq
  go_enter Tryz.func63, Tryz.ntmps63
  go_wp2_with fail
  refine HC.out.mono ?_
  rintro e w1 ⟨rfl, rfl⟩
  go_wp2_with fail
  go_quiet (fail)
  go_wp2
  refine bodyPost_ret (v := .tuple #[.slice (some ⟨b, 0, none⟩) fs.length fs.length, .bool true]) (by simp [results, Tryz.results63, go_sem]) rfl ?_
  exact ⟨_, _, _, by rw [HF.out, decide_eq_true HQ.out], fun _ => ⟨b, by rw [← HP.out.2.2], HP.out.1, by rw [← HP.out.2.2]; exact HP.out.2.1⟩, by repeat (first | exact HB0.out | refine blw_alloc ?_ _ | refine blw_drewN ?_ _)⟩
end Go.Proofs.YtfdahoekjpobaaaGreat
