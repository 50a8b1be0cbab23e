/-
  Walks: ascending names; the shape of a kind; what is bounded.
-/
import Derived.Test.YtliaibdbcaglnaaWalkQ
import Derived.Test.YtliaibdbcaglnaaWalkN
import Derived.Deep.Light
namespace Go.Proofs.Ytliaibdbcaglnaa
open Go.RowKit Go.Deep

/-- What gateShapeOf answers. -/
def ShapeOf (ss : List Shp) (k : ByteArray) (w : World) (kd : ByteArray) (v : Value) : Prop :=
  hasKind ss k = true → kd = (ss.getD (kindAt ss k) Shp.none).kind ∧ ∃ b, v = .slice (some ⟨b, 0, none⟩) (ss.getD (kindAt ss k) Shp.none).fields.length (ss.getD (kindAt ss k) Shp.none).fields.length ∧ b < w.heap.size ∧
    ∀ i, i < (ss.getD (kindAt ss k) Shp.none).fields.length → OwnFld w b (i * 11) ((ss.getD (kindAt ss k) Shp.none).fields.getD i Fld.none)

set_option maxHeartbeats 2000000 in
theorem shapeOf_any (B : Nat) (ss : List Shp) (k : ByteArray) (w : World) (h : ShpsIn w B ss) :
    Calls Try.prog 28 #[.slice (some ⟨B, 0, none⟩) ss.length ss.length, .string k] w fun e w' => ∃ kd a n c, e = .returned (.tuple #[.agg #[.string kd, .slice a n c], .bool (hasKind ss k)]) ∧ ShapeOf ss k w kd (.slice a n c) ∧ Below w.heap.size w w' := by
  have hl := h.len
  have HH : Hid (ShpsIn w B ss) := h
  clear h
  go_enter Try.func28, Try.ntmps28
  go_wp2
  go_loopw [10] (fun i wr => ∃ q : Nat, q ≤ ss.length ∧ i = .int .i64 q ∧ q ≤ kindAt ss k ∧ Below w.heap.size w wr ∧ OwnBlk wr w.heap.size 76 2) (fun i _ => ss.length - (intOf i).toNat)
  case atStart => exact ⟨0, Nat.zero_le _, rfl, Nat.zero_le _, blw_alloc (Below.refl _ _) _, OwnBlk.alloc w _ 76 _ rfl⟩
  case round =>
    obtain ⟨q, hq, rfl, hno, hW, hO⟩ := hrel
    have HN : Hid (q ≤ kindAt ss k) := hno
    have HO : Hid (OwnBlk wr w.heap.size 76 2) := hO
    have hfz := hO.frozen
    obtain ⟨x0, o0⟩ := hO.cell 0 (by omega)
    obtain ⟨x1, o1⟩ := hO.cell 1 (by omega)
    have hz := hO.lt
    clear hno hO
    by_cases hlt : q < ss.length
    · obtain ⟨b, _, hbl, _, _, d0, d1, hf⟩ := HH.out.at_ q hlt
      have c0 := (hW.cell (p := ⟨B, q * 2, none⟩) HH.out.lt).trans d0
      have c1 := (hW.cell (p := ⟨B, q * 2 + 1, none⟩) HH.out.lt).trans d1
      clear d0 d1
      obtain ⟨s, hs⟩ : ∃ s, s = ss.getD q Shp.none := ⟨_, rfl⟩
      rw [← hs] at c0 c1 hf
      cases ht : (s.kind.toList == k.toList)
      · have HM : Hid (q + 1 ≤ kindAt ss k) := kindAt_miss ss k q hlt HN.out (by rw [← hs]; exact ht)
        clear hs hf hbl
        go_wp2
        go_roundw
        case rel => exact ⟨q + 1, by omega, by go_num, HM.out, blw_alloc hW _, HO.out.later (blw_alloc (Below.refl _ _) _)⟩
        case measure => simp [intOf]; omega
      · have HM : Hid (kindAt ss k = q) := kindAt_hit ss k q hlt HN.out (by rw [← hs]; exact ht)
        have HS : Hid (s = ss.getD q Shp.none ∧ b < w.heap.size ∧ ∀ i, i < s.fields.length → OwnFld w b (i * 11) (s.fields.getD i Fld.none)) := ⟨hs, hbl, hf⟩
        have HK : Hid (hasKind ss k = true) := by show hasKind ss k = true; simp [hasKind, HM.out, hlt]
        clear hs hf hbl
        go_wp2
        have e0 : ∀ (x : Value) (o : Obj), (((wr.setCell ⟨w.heap.size, 0, none⟩ (.string s.kind)).setCell ⟨w.heap.size, 1, none⟩ x).alloc o).cell? ⟨w.heap.size, 0, none⟩ = some (.string s.kind) := by
          intro x o
          have h1 := World.cell?_alloc_past (w := (wr.setCell ⟨w.heap.size, 0, none⟩ (.string s.kind)).setCell ⟨w.heap.size, 1, none⟩ x) o w.heap.size 0 (by rw [sc_size, sc_size]; exact hz)
          rw [h1, sc_ne _ _ _ _ _ _ (by omega)]
          exact sc_eq HO.out 0 (by omega) _
        have e1 : ∀ (x : Value) (o : Obj), (((wr.setCell ⟨w.heap.size, 0, none⟩ (.string s.kind)).setCell ⟨w.heap.size, 1, none⟩ x).alloc o).cell? ⟨w.heap.size, 1, none⟩ = some x := by
          intro x o
          have h1 := World.cell?_alloc_past (w := (wr.setCell ⟨w.heap.size, 0, none⟩ (.string s.kind)).setCell ⟨w.heap.size, 1, none⟩ x) o w.heap.size 1 (by rw [sc_size, sc_size]; exact hz)
          rw [h1]
          exact sc_eq (HO.out.setCell 0 _) 1 (by omega) _
        refine bodyPost_ret (v := .tuple #[.agg #[.string s.kind, .slice (some ⟨b, 0, none⟩) s.fields.length s.fields.length], .bool true]) (by simp [results, Try.results28, go_sem, e0, e1]) rfl ⟨_, _, _, _, by rw [HK.out], ?_, ?_⟩
        · intro _
          rw [HM.out, ← HS.out.1]
          exact ⟨rfl, b, rfl, HS.out.2.1, HS.out.2.2⟩
        · exact blw_alloc ((hW.setCell (p := ⟨w.heap.size, 0, none⟩) (Nat.le_refl _) _).setCell (p := ⟨w.heap.size, 1, none⟩) (Nat.le_refl _) _) _
    · have HK : Hid (hasKind ss k = false) := by have := HN.out; show hasKind ss k = false; simp [hasKind]; omega
      go_wp2
      have e0 : ∀ (x y : Value), ((wr.setCell ⟨w.heap.size, 0, none⟩ y).setCell ⟨w.heap.size, 1, none⟩ x).cell? ⟨w.heap.size, 0, none⟩ = some y := by
        intro x y
        rw [sc_ne _ _ _ _ _ _ (by omega)]
        exact sc_eq HO.out 0 (by omega) _
      have e1 : ∀ (x y : Value), ((wr.setCell ⟨w.heap.size, 0, none⟩ y).setCell ⟨w.heap.size, 1, none⟩ x).cell? ⟨w.heap.size, 1, none⟩ = some x := by
        intro x y
        exact sc_eq (HO.out.setCell 0 _) 1 (by omega) _
      refine bodyPost_ret (v := .tuple #[.agg #[.string ⟨#[]⟩, .slice none 0 0], .bool false]) (by simp [results, Try.results28, go_sem, e0, e1]) rfl ⟨_, _, _, _, by rw [HK.out], ?_, ?_⟩
      · intro h; rw [HK.out] at h; cases h
      · exact (hW.setCell (p := ⟨w.heap.size, 0, none⟩) (Nat.le_refl _) _).setCell (p := ⟨w.heap.size, 1, none⟩) (Nat.le_refl _) _

end Go.Proofs.Ytliaibdbcaglnaa
