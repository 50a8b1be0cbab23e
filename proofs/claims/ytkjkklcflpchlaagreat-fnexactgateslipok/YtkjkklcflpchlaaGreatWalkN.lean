/-
  Walks over copies of fields and shapes.
-/
import Derived.Test.YtkjkklcflpchlaaGreatPuts
import Derived.Test.YtkjkklcflpchlaaGreatWalkKO
namespace Go.Proofs.YtkjkklcflpchlaaGreat
open Go.RowKit Go.Deep

theorem Tryz.info160 : (Tryz.prog.info? 160).map (fun i => (i.zero, i.size, i.bytes)) = some (some (.agg #[.string ByteArray.empty, .int .i64 0, .int .i64 0, .int .i64 0, .slice none 0 0, .string ByteArray.empty, .int .i64 0, .bool false, .bool false, .string ByteArray.empty, .string ByteArray.empty]), 11, 128) := by kernel_rfl
theorem Tryz.info99 : (Tryz.prog.info? 99).map (fun i => (i.zero, i.size, i.bytes)) = some (some (.agg #[.string ByteArray.empty, .slice none 0 0]), 2, 40) := by kernel_rfl

theorem make_flds (n : Nat) (h : n ≤ 1048576) : ∃ cs : Array Value, cs.size = n * 11 ∧ ∀ W : World,
    (Instr.makeSlice 97 (.int .i64 (n : Int)) (.int .i64 (n : Int))).run Tryz.prog W = .ok (.slice (some ⟨W.heap.size, 0, none⟩) n n) (W.alloc (.cells cs 160)) := by
  obtain ⟨i, hi, hzz⟩ := Option.map_eq_some_iff.1 Tryz.info160
  simp only [Prod.mk.injEq] at hzz
  obtain ⟨hz, hs, hb⟩ := hzz
  refine ⟨madeCells (Value.agg #[.string ByteArray.empty, .int .i64 0, .int .i64 0, .int .i64 0, .slice none 0 0, .string ByteArray.empty, .int .i64 0, .bool false, .bool false, .string ByteArray.empty, .string ByteArray.empty]).cells (n * 11), size_madeCells _ _, fun W => ?_⟩
  have hr := run_make (P := Tryz.prog) W 97 160 i _ Tryz.underlying97 hi hz .i64 .i64 n n (by omega) (Int.le_refl _) (by rw [hb]; omega) (by omega)
  simp only [Int.toNat_natCast, hs] at hr
  exact hr

theorem make_shps (n : Nat) (h : n ≤ 1048576) : ∃ cs : Array Value, cs.size = n * 2 ∧ ∀ W : World,
    (Instr.makeSlice 36 (.int .i64 (n : Int)) (.int .i64 (n : Int))).run Tryz.prog W = .ok (.slice (some ⟨W.heap.size, 0, none⟩) n n) (W.alloc (.cells cs 99)) := by
  obtain ⟨i, hi, hzz⟩ := Option.map_eq_some_iff.1 Tryz.info99
  simp only [Prod.mk.injEq] at hzz
  obtain ⟨hz, hs, hb⟩ := hzz
  refine ⟨madeCells (Value.agg #[.string ByteArray.empty, .slice none 0 0]).cells (n * 2), size_madeCells _ _, fun W => ?_⟩
  have hr := run_make (P := Tryz.prog) W 36 99 i _ Tryz.underlying36 hi hz .i64 .i64 n n (by omega) (Int.le_refl _) (by rw [hb]; omega) (by omega)
  simp only [Int.toNat_natCast, hs] at hr
  exact hr

/-- The field of a contract: a copy in new memory. -/
theorem toFld (f : Fld) (vs : Value) (w : World) (hs : f.small) (h : Texts w vs f.words) :
    Calls Tryz.prog 101 #[.agg #[.string f.nm, .int .i64 f.kind, .int .i64 f.least, .int .i64 f.most, vs, .string f.to, .int .i64 f.role, .bool f.must, .bool f.fixed, .string f.de, .string f.we]] w fun e w' => ∃ b, e = .returned (.agg #[.string f.nm, .int .i64 f.kind, .int .i64 f.least, .int .i64 f.most, .slice (some ⟨b, 0, none⟩) f.words.length f.words.length, .string f.to, .int .i64 f.role, .bool f.must, .bool f.fixed, .string f.de, .string f.we]) ∧ Below w.heap.size w w' ∧ w.heap.size ≤ b ∧ b < w'.heap.size ∧ OwnBlk w' b 9 f.words.length ∧
      ∀ i, i < f.words.length → w'.cell? ⟨b, 0 + i, none⟩ = some (.string (f.words.getD i ByteArray.empty)) :=
  toFieldO f.nm f.kind f.least f.most vs f.to f.role f.must f.fixed f.de f.we w f.words hs h

set_option maxHeartbeats 1000000 in
theorem toFields_row (b off cap : Nat) (fs : List Fld) (w : World) (hl : fs.length ≤ 1048576) (hsm : ∀ f ∈ fs, f.small) (hb : b < w.heap.size)
    (hc : ∀ i, i < fs.length → ∃ vs, FldIs w b (off + i * 11) (fs.getD i Fld.none) vs) :
    Calls Tryz.prog 81 #[.slice (some ⟨b, off, none⟩) fs.length cap] w fun e w' => e = .returned (.slice (some ⟨w.heap.size, 0, none⟩) fs.length fs.length) ∧ Below w.heap.size w w' ∧ OwnBlk w' w.heap.size 160 (fs.length * 11) ∧
      ∀ i, i < fs.length → OwnFld w' w.heap.size (i * 11) (fs.getD i Fld.none) := by
  obtain ⟨cs, hcs, hmk⟩ := make_flds fs.length hl
  go_enter Tryz.func81, Tryz.ntmps81
  go_wp2
  go_loopw [4] (fun i wr => ∃ k : Nat, k ≤ fs.length ∧ i = .int .i64 k ∧ Below w.heap.size w wr ∧ OwnBlk wr w.heap.size 160 (fs.length * 11) ∧ ∀ i, i < k → OwnFld wr w.heap.size (i * 11) (fs.getD i Fld.none)) (fun i _ => fs.length - (intOf i).toNat)
  case atStart => exact ⟨0, Nat.zero_le _, rfl, blw_alloc (Below.refl _ _) _, OwnBlk.alloc w cs 160 _ hcs, fun i hi => absurd hi (Nat.not_lt_zero i)⟩
  case round =>
    obtain ⟨k, hk, rfl, hB, hO, hall⟩ := hrel
    have HA : Hid (∀ i, i < k → OwnFld wr w.heap.size (i * 11) (fs.getD i Fld.none)) := hall
    have HO : Hid (OwnBlk wr w.heap.size 160 (fs.length * 11)) := hO
    clear hall hmk hcs hO
    by_cases hlt : k < fs.length
    · obtain ⟨vs, hf⟩ := hc k hlt
      have hf' := hf.later hB hb
      obtain ⟨f, hff⟩ : ∃ f, f = fs.getD k Fld.none := ⟨_, rfl⟩
      rw [← hff] at hf'
      have hfs : f.small := hsm f (by rw [hff]; simp [hlt])
      have HX : Hid (f.small ∧ Texts wr vs f.words ∧ f.sized) := ⟨hfs, hf'.texts, hf'.sized⟩
      obtain ⟨c0, c1, c2, c3, c4, c5, c6, c7, c8, c9, c10, _, _⟩ := hf'
      have HFF : Hid (f = fs.getD k Fld.none) := hff
      clear hff hf hc hfs hsm
      go_wp2_with fail
      refine (toFld f vs wr HX.out.1 HX.out.2.1).mono ?_
      rintro e w2 ⟨b2, rfl, hb2, hge, hlt2, how2, hc2⟩
      have hB2 := blw_trans hB hb2
      have hO2 := HO.out.later hb2
      have HP : Hid (∀ v, v = [.string f.nm, .int .i64 f.kind, .int .i64 f.least, .int .i64 f.most, .slice (some ⟨b2, 0, none⟩) f.words.length f.words.length, .string f.to, .int .i64 f.role, .bool f.must, .bool f.fixed, .string f.de, .string f.we] →
          Below w.heap.size w (puts w2 w.heap.size (k * 11) 0 v) ∧ OwnBlk (puts w2 w.heap.size (k * 11) 0 v) w.heap.size 160 (fs.length * 11) ∧ ∀ i, i < k + 1 → OwnFld (puts w2 w.heap.size (k * 11) 0 v) w.heap.size (i * 11) (fs.getD i Fld.none)) := by
        intro v hv
        subst hv
        refine ⟨puts_below (a := w) _ (Nat.le_refl _) _ _ _ hB2, puts_own _ _ _ _ hO2, fun i hi => ?_⟩
        by_cases hik : i < k
        · exact ((HA.out i hik).later hb2 HO.out.lt).puts (k * 11) _ (by omega)
        · obtain rfl : i = k := by omega
          rw [← HFF.out]
          have := HO.out.lt
          exact own_put hO2 (i * 11) (by omega) f b2 (by omega) how2 hlt2 HX.out.2.2 HX.out.1 HX.out.2.1.sizes hc2
      clear hc2 how2 c0 c1 c2 c3 c4 c5 c6 c7 c8 c9 c10 HX
      have hfz := hO2.frozen
      obtain ⟨v0, o0⟩ := hO2.cell (k * 11) (by omega)
      obtain ⟨v1, o1⟩ := hO2.cell (k * 11 + 1) (by omega)
      obtain ⟨v2, o2⟩ := hO2.cell (k * 11 + 2) (by omega)
      obtain ⟨v3, o3⟩ := hO2.cell (k * 11 + 3) (by omega)
      obtain ⟨v4, o4⟩ := hO2.cell (k * 11 + 4) (by omega)
      obtain ⟨v5, o5⟩ := hO2.cell (k * 11 + 5) (by omega)
      obtain ⟨v6, o6⟩ := hO2.cell (k * 11 + 6) (by omega)
      obtain ⟨v7, o7⟩ := hO2.cell (k * 11 + 7) (by omega)
      obtain ⟨v8, o8⟩ := hO2.cell (k * 11 + 8) (by omega)
      obtain ⟨v9, o9⟩ := hO2.cell (k * 11 + 9) (by omega)
      obtain ⟨v10, o10⟩ := hO2.cell (k * 11 + 10) (by omega)
      clear hO2 hB2 hb2 hge hlt2
      go_wp2
      go_roundw
      case rel => exact ⟨k + 1, by omega, by go_num, (HP.out _ rfl).1, (HP.out _ rfl).2.1, (HP.out _ rfl).2.2⟩
      case measure => simp [intOf]; omega
    · obtain rfl : k = fs.length := by omega
      go_wp2
      go_ret
      exact ⟨rfl, hB, HO.out, HA.out⟩

set_option maxHeartbeats 400000 in
theorem toFields_nil (a : Option Addr) (cap : Nat) (w : World) :
    Calls Tryz.prog 81 #[.slice a 0 cap] w fun e w' => e = .returned (.slice (some ⟨w.heap.size, 0, none⟩) 0 0) ∧ ∃ cs : Array Value, cs.size = 0 ∧ w' = w.alloc (.cells cs 160) := by
  obtain ⟨cs, hcs0, hmk0⟩ := make_flds 0 (by omega)
  have hmk : ∀ W : World, (Instr.makeSlice 97 (.int .i64 0) (.int .i64 0)).run Tryz.prog W = .ok (.slice (some ⟨W.heap.size, 0, none⟩) 0 0) (W.alloc (.cells cs 160)) := hmk0
  clear hmk0
  go_enter Tryz.func81, Tryz.ntmps81
  go_wp2
  refine wp_loop_rounds 1 ?_
  rw [rounds_succ]
  go_wp2
  go_ret
  exact ⟨rfl, _, by omega, rfl⟩

theorem toFields (v : Value) (fs : List Fld) (w : World) (hl : fs.length ≤ 1048576) (hsm : ∀ f ∈ fs, f.small) (h : FldsAt w v fs) :
    Calls Tryz.prog 81 #[v] w fun e w' => e = .returned (.slice (some ⟨w.heap.size, 0, none⟩) fs.length fs.length) ∧ Below w.heap.size w w' ∧ OwnBlk w' w.heap.size 160 (fs.length * 11) ∧
      ∀ i, i < fs.length → OwnFld w' w.heap.size (i * 11) (fs.getD i Fld.none) := by
  rcases h with ⟨a, cap, rfl, rfl⟩ | ⟨b, off, cap, rfl, hb, _, hc⟩
  · refine (toFields_nil a cap w).mono ?_
    rintro e w' ⟨rfl, cs, hcs, rfl⟩
    exact ⟨rfl, blw_alloc (Below.refl _ _) _, OwnBlk.alloc w cs 160 _ (by simpa using hcs), fun i hi => absurd hi (Nat.not_lt_zero i)⟩
  · exact toFields_row b off cap fs w hl hsm hb hc

theorem sc_size (w : World) (a : Addr) (v : Value) : (w.setCell a v).heap.size = w.heap.size := by simp [World.setCell]

theorem OwnFld.sc {w : World} {B b o : Nat} {f : Fld} (h : OwnFld w b o f) (hne : B < b) (o' : Nat) (v : Value) : OwnFld (w.setCell ⟨B, o', none⟩ v) b o f :=
  OwnFld.puts_past h hne o' 0 [v]

set_option maxHeartbeats 1000000 in
theorem toShape (s : Shp) (v : Value) (w : World) (hs : s.small) (h : FldsAt w v s.fields) :
    Calls Tryz.prog 56 #[.agg #[.string s.kind, v]] w fun e w' => ∃ b, e = .returned (.agg #[.string s.kind, .slice (some ⟨b, 0, none⟩) s.fields.length s.fields.length]) ∧ Below w.heap.size w w' ∧ (w.heap.size < b ∧ OwnBlk w' b 160 (s.fields.length * 11)) ∧ b < w'.heap.size ∧
      ∀ i, i < s.fields.length → OwnFld w' b (i * 11) (s.fields.getD i Fld.none) := by
  have HX : Hid (∀ W, Below w.heap.size w W → Calls Tryz.prog 81 #[v] W fun e w' => e = .returned (.slice (some ⟨W.heap.size, 0, none⟩) s.fields.length s.fields.length) ∧ Below W.heap.size W w' ∧ OwnBlk w' W.heap.size 160 (s.fields.length * 11) ∧
      ∀ i, i < s.fields.length → OwnFld w' W.heap.size (i * 11) (s.fields.getD i Fld.none)) := fun W hW => toFields v s.fields W hs.1 hs.2 (h.later hW)
  clear h hs
  go_enter Tryz.func56, Tryz.ntmps56
  go_wp2_with fail
  have hB : Below w.heap.size w (((w.alloc (.cells #[.string s.kind, v] 82)).alloc (.cells #[.string ByteArray.empty, .slice none 0 0] 99)).alloc (.cells #[.string s.kind, .slice none 0 0] 99)) := blw_alloc (blw_alloc (blw_alloc (Below.refl _ _) _) _) _
  refine (HX.out _ hB).mono ?_
  rintro e w2 ⟨rfl, hb2, hz2, hf2⟩
  have hB2 := blw_trans hB hb2
  have k0 : ∀ o, w2.cell? ⟨w.heap.size + 1 + 1, o, none⟩ = (((w.alloc (.cells #[.string s.kind, v] 82)).alloc (.cells #[.string ByteArray.empty, .slice none 0 0] 99)).alloc (.cells #[.string s.kind, .slice none 0 0] 99)).cell? ⟨w.heap.size + 1 + 1, o, none⟩ := fun o => hb2.cell (p := ⟨_, o, none⟩) (by simp)
  have k1 : ∀ o, w2.cell? ⟨w.heap.size + 1, o, none⟩ = (((w.alloc (.cells #[.string s.kind, v] 82)).alloc (.cells #[.string ByteArray.empty, .slice none 0 0] 99)).alloc (.cells #[.string s.kind, .slice none 0 0] 99)).cell? ⟨w.heap.size + 1, o, none⟩ := fun o => hb2.cell (p := ⟨_, o, none⟩) (by simp)
  have z0 : ∀ o, w2.frozen? ⟨w.heap.size + 1 + 1, o, none⟩ = (((w.alloc (.cells #[.string s.kind, v] 82)).alloc (.cells #[.string ByteArray.empty, .slice none 0 0] 99)).alloc (.cells #[.string s.kind, .slice none 0 0] 99)).frozen? ⟨w.heap.size + 1 + 1, o, none⟩ := fun o => hb2.frozen (p := ⟨_, o, none⟩) (by simp)
  have z1 : ∀ o, w2.frozen? ⟨w.heap.size + 1, o, none⟩ = (((w.alloc (.cells #[.string s.kind, v] 82)).alloc (.cells #[.string ByteArray.empty, .slice none 0 0] 99)).alloc (.cells #[.string s.kind, .slice none 0 0] 99)).frozen? ⟨w.heap.size + 1, o, none⟩ := fun o => hb2.frozen (p := ⟨_, o, none⟩) (by simp)
  have HF : Hid (∀ i, i < s.fields.length → OwnFld w2 (w.heap.size + 1 + 1 + 1) (i * 11) (s.fields.getD i Fld.none)) := by
    have e : (((w.alloc (.cells #[.string s.kind, v] 82)).alloc (.cells #[.string ByteArray.empty, .slice none 0 0] 99)).alloc (.cells #[.string s.kind, .slice none 0 0] 99)).heap.size = w.heap.size + 1 + 1 + 1 := by simp
    rw [e] at hf2
    exact hf2
  have HOb : Hid (OwnBlk w2 (w.heap.size + 1 + 1 + 1) 160 (s.fields.length * 11)) := by
    have e : (((w.alloc (.cells #[.string s.kind, v] 82)).alloc (.cells #[.string ByteArray.empty, .slice none 0 0] 99)).alloc (.cells #[.string s.kind, .slice none 0 0] 99)).heap.size = w.heap.size + 1 + 1 + 1 := by simp
    rw [e] at hz2
    exact hz2
  have hz3 : w.heap.size + 1 + 1 + 1 < w2.heap.size := HOb.out.lt
  clear hf2 hz2 hb2 hB HX
  go_wp2
  refine bodyPost_ret (v := .agg #[.string s.kind, .slice (some ⟨w.heap.size + 1 + 1 + 1, 0, none⟩) s.fields.length s.fields.length]) (by simp [results, Tryz.results56, go_sem, k1]) rfl ⟨w.heap.size + 1 + 1 + 1, rfl, ?_, ⟨by omega, ((HOb.out.sc_other (by omega) _ _).sc_other (by omega) _ _).sc_other (by omega) _ _⟩, ?_, fun i hi => ?_⟩
  · exact ((hB2.setCell (p := ⟨w.heap.size + 1 + 1, 1, none⟩) (by show _ ≤ w.heap.size + 1 + 1; omega) _).setCell (p := ⟨w.heap.size + 1, 0, none⟩) (by show _ ≤ w.heap.size + 1; omega) _).setCell (p := ⟨w.heap.size + 1, 1, none⟩) (by show _ ≤ w.heap.size + 1; omega) _
  · rw [sc_size, sc_size, sc_size]; exact hz3
  · exact (((HF.out i hi).sc (by omega) _ _).sc (by omega) _ _).sc (by omega) _ _

end Go.Proofs.YtkjkklcflpchlaaGreat
