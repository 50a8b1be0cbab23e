/-
  Draws: the law of a session, teams.
-/
import Derived.Test.YtfmidkdpclfffaaDoorDrE
namespace Go.Proofs.YtfmidkdpclfffaaDoor
open Go.RowKit Go.Deep

set_option maxRecDepth 8000 in
set_option maxHeartbeats 4000000 in
theorem num11 (a : ByteArray) (m : Int) (c d : Bool) (x f : ByteArray) (W : World) :
    Calls Tryd.prog 69 #[.string a, .int .i64 m, .bool c, .bool d, .string x, .string f] W fun e W' => e = .returned (.agg #[.string a, .int .i64 1, .int .i64 1, .int .i64 m, .slice none 0 0, .string ⟨#[]⟩, .int .i64 0, .bool c, .bool d, .string x, .string f]) ∧ Below W.heap.size W W' := by
  go_enter Tryd.func69, Tryd.ntmps69
  go_wp2
  refine bodyPost_ret (v := .agg #[.string a, .int .i64 1, .int .i64 1, .int .i64 m, .slice none 0 0, .string ⟨#[]⟩, .int .i64 0, .bool c, .bool d, .string x, .string f]) (by simp [results, Tryd.results69, go_sem]) rfl ⟨rfl, blw_alloc (Below.refl _ _) _⟩

set_option maxRecDepth 8000 in
set_option maxHeartbeats 4000000 in
theorem word11 (a : ByteArray) (s : Option Addr) (n c : Nat) (x : ByteArray) (W : World) :
    Calls Tryd.prog 70 #[.string a, .slice s n c, .string x] W fun e W' => e = .returned (.agg #[.string a, .int .i64 2, .int .i64 0, .int .i64 0, .slice s n c, .string ⟨#[]⟩, .int .i64 0, .bool false, .bool false, .string x, .string ⟨#[]⟩]) ∧ Below W.heap.size W W' := by
  go_enter Tryd.func70, Tryd.ntmps70
  go_wp2
  refine bodyPost_ret (v := .agg #[.string a, .int .i64 2, .int .i64 0, .int .i64 0, .slice s n c, .string ⟨#[]⟩, .int .i64 0, .bool false, .bool false, .string x, .string ⟨#[]⟩]) (by simp [results, Tryd.results70, go_sem]) rfl ⟨rfl, blw_alloc (Below.refl _ _) _⟩

set_option maxRecDepth 8000 in
set_option maxHeartbeats 4000000 in
theorem link11 (a b : ByteArray) (m : Int) (W : World) :
    Calls Tryd.prog 71 #[.string a, .string b, .int .i64 m] W fun e W' => e = .returned (.agg #[.string a, .int .i64 4, .int .i64 0, .int .i64 0, .slice none 0 0, .string b, .int .i64 m, .bool false, .bool false, .string ⟨#[]⟩, .string ⟨#[]⟩]) ∧ Below W.heap.size W W' := by
  go_enter Tryd.func71, Tryd.ntmps71
  go_wp2
  refine bodyPost_ret (v := .agg #[.string a, .int .i64 4, .int .i64 0, .int .i64 0, .slice none 0 0, .string b, .int .i64 m, .bool false, .bool false, .string ⟨#[]⟩, .string ⟨#[]⟩]) (by simp [results, Tryd.results71, go_sem]) rfl ⟨rfl, blw_alloc (Below.refl _ _) _⟩

theorem tms_new (W : World) (ts : List Tm) (cs : Array Value) (b : Nat) (t : TypeId) (hb : b = W.heap.size) (h : cs = (ts.flatMap fun m => [Value.string m.nm, Value.string m.ov]).toArray) (hl : ts.length ≤ 1048576) (hs : ∀ m ∈ ts, m.sized) : TmsIn (W.alloc (.cells cs t)) b ts := by
  subst h hb
  refine ⟨by simp, hl, fun i hi => ?_⟩
  have hg : ∀ (l : List Tm) (i : Nat), i < l.length → (l.flatMap fun m => [Value.string m.nm, Value.string m.ov])[i * 2]? = some (.string (l.getD i Tm.none).nm) ∧ (l.flatMap fun m => [Value.string m.nm, Value.string m.ov])[i * 2 + 1]? = some (.string (l.getD i Tm.none).ov) := by
    intro l
    induction l with
    | nil => intro i hi; simp at hi
    | cons x xs ih =>
      intro i hi
      cases i with
      | zero => simp
      | succ j =>
        have := ih j (by simpa using hi)
        have e1 : (j + 1) * 2 = j * 2 + 2 := by omega
        have e2 : (j + 1) * 2 + 1 = j * 2 + 1 + 2 := by omega
        rw [e1]
        simpa using this
  obtain ⟨g0, g1⟩ := hg ts i hi
  refine ⟨?_, ?_, ?_⟩
  · rw [World.cell?_alloc_at _ _ _ _ rfl]; simpa using g0
  · rw [World.cell?_alloc_at _ _ _ _ rfl]; simpa using g1
  · refine hs _ ?_
    rw [List.getD_eq_getElem?_getD, List.getElem?_eq_getElem hi]
    exact List.getElem_mem _

set_option maxRecDepth 8000 in
set_option maxHeartbeats 8000000 in
theorem law11 (W : World) :
    Calls Tryd.prog 58 #[] W fun e W' => (∃ (s0 s1 : Value) (b : Nat) (ts : List Tm), e = .returned (.agg #[s0, s1, .slice (some ⟨b, 0, none⟩) ts.length ts.length]) ∧ TmsIn W' b ts ∧ W.heap.size ≤ b ∧ 1 ≤ ts.length ∧ ts.length ≤ 6) ∧ Below W.heap.size W W' := by
  obtain ⟨W0, hW0⟩ : ∃ W0, W0 = W.alloc (.cells #[.slice none 0 0, .slice none 0 0, .slice none 0 0] 91) := ⟨_, rfl⟩
  obtain ⟨B, hB⟩ : ∃ B, B = W.heap.size := ⟨_, rfl⟩
  have H : Hid (Below W.heap.size W W0 ∧ OwnBlk W0 B 91 3 ∧ W.heap.size = B) := ⟨by rw [hW0]; exact blw_alloc (Below.refl _ _) _, by rw [hW0, hB]; exact OwnBlk.alloc _ _ _ _ rfl, hB.symm⟩
  go_enter Tryd.func58, Tryd.ntmps58
  go_upto_region 1 with fail
  rw [← hW0, ← hB]
  clear hW0 hB
  go_wp2_with fail
  refine (num11 _ _ _ _ _ _ W0).mono ?_
  rintro e W1 ⟨rfl, hb⟩
  have H : Hid (Below W.heap.size W W1 ∧ OwnBlk W1 B 91 3 ∧ W.heap.size = B) := ⟨blw_trans H.out.1 hb, H.out.2.1.later hb, H.out.2.2⟩
  clear hb
  go_wp2_with fail
  refine (word11 _ _ _ _ _ _).mono ?_
  rintro e W2 ⟨rfl, hb⟩
  have hb : Below W1.heap.size W1 W2 := blw_trans (blw_alloc (Below.refl _ _) _) hb
  have H : Hid (Below W.heap.size W W2 ∧ OwnBlk W2 B 91 3 ∧ W.heap.size = B) := ⟨blw_trans H.out.1 hb, H.out.2.1.later hb, H.out.2.2⟩
  clear hb
  obtain ⟨W3, hw⟩ : ∃ W3, W3 = (W2.alloc (.cells #[.string ⟨#[114, 111, 111, 109]⟩, .int .i64 1, .int .i64 1, .int .i64 64, .slice none 0 0, .string ⟨#[]⟩, .int .i64 0, .bool true, .bool false, .string ⟨#[]⟩, .string ⟨#[114, 111, 111, 109]⟩, .string ⟨#[122, 111, 110, 101]⟩, .int .i64 2, .int .i64 0, .int .i64 0, .slice (some ⟨W1.heap.size, 0, none⟩) 3 3, .string ⟨#[]⟩, .int .i64 0, .bool false, .bool false, .string ⟨#[97]⟩, .string ⟨#[]⟩] 99)).alloc (.cells #[.string ⟨#[98, 101, 114, 116, 104]⟩, .slice (some ⟨W2.heap.size, 0, none⟩) 2 2] 104) := ⟨_, rfl⟩
  obtain ⟨S1, hs⟩ : ∃ S1, S1 = W2.heap.size + 1 := ⟨_, rfl⟩
  obtain ⟨F1, hf⟩ : ∃ F1, F1 = W2.heap.size := ⟨_, rfl⟩
  have hb : Below W2.heap.size W2 W3 := by rw [hw]; exact blw_alloc (blw_alloc (Below.refl _ _) _) _
  have hx : Boxed W3 S1 #[.string ⟨#[98, 101, 114, 116, 104]⟩, .slice (some ⟨F1, 0, none⟩) 2 2] := by
    rw [hw, hs, hf]
    have := Boxed.new (W2.alloc (.cells #[.string ⟨#[114, 111, 111, 109]⟩, .int .i64 1, .int .i64 1, .int .i64 64, .slice none 0 0, .string ⟨#[]⟩, .int .i64 0, .bool true, .bool false, .string ⟨#[]⟩, .string ⟨#[114, 111, 111, 109]⟩, .string ⟨#[122, 111, 110, 101]⟩, .int .i64 2, .int .i64 0, .int .i64 0, .slice (some ⟨W1.heap.size, 0, none⟩) 3 3, .string ⟨#[]⟩, .int .i64 0, .bool false, .bool false, .string ⟨#[97]⟩, .string ⟨#[]⟩] 99)) #[.string ⟨#[98, 101, 114, 116, 104]⟩, .slice (some ⟨W2.heap.size, 0, none⟩) 2 2] 104
    simpa using this
  have H : Hid (Below W.heap.size W W3 ∧ OwnBlk W3 B 91 3 ∧ W.heap.size = B ∧ Boxed W3 S1 #[.string ⟨#[98, 101, 114, 116, 104]⟩, .slice (some ⟨F1, 0, none⟩) 2 2]) := ⟨blw_trans H.out.1 hb, H.out.2.1.later hb, H.out.2.2, hx⟩
  go_upto_region 2 with fail
  rw [← hw]
  (try rw [← hs])
  (try rw [← hf])
  clear hw hs hf hb hx
  go_wp2_with fail
  refine (num11 _ _ _ _ _ _ W3).mono ?_
  rintro e W4 ⟨rfl, hb⟩
  have H : Hid (Below W.heap.size W W4 ∧ OwnBlk W4 B 91 3 ∧ W.heap.size = B ∧ Boxed W4 S1 #[.string ⟨#[98, 101, 114, 116, 104]⟩, .slice (some ⟨F1, 0, none⟩) 2 2]) := ⟨blw_trans H.out.1 hb, H.out.2.1.later hb, H.out.2.2.1, H.out.2.2.2.later hb⟩
  clear hb
  go_wp2_with fail
  refine (word11 _ _ _ _ _ _).mono ?_
  rintro e W5 ⟨rfl, hb⟩
  have hb : Below W4.heap.size W4 W5 := blw_trans (blw_alloc (Below.refl _ _) _) hb
  have H : Hid (Below W.heap.size W W5 ∧ OwnBlk W5 B 91 3 ∧ W.heap.size = B ∧ Boxed W5 S1 #[.string ⟨#[98, 101, 114, 116, 104]⟩, .slice (some ⟨F1, 0, none⟩) 2 2]) := ⟨blw_trans H.out.1 hb, H.out.2.1.later hb, H.out.2.2.1, H.out.2.2.2.later hb⟩
  clear hb
  go_wp2_with fail
  refine (link11 _ _ _ W5).mono ?_
  rintro e W6 ⟨rfl, hb⟩
  have H : Hid (Below W.heap.size W W6 ∧ OwnBlk W6 B 91 3 ∧ W.heap.size = B ∧ Boxed W6 S1 #[.string ⟨#[98, 101, 114, 116, 104]⟩, .slice (some ⟨F1, 0, none⟩) 2 2]) := ⟨blw_trans H.out.1 hb, H.out.2.1.later hb, H.out.2.2.1, H.out.2.2.2.later hb⟩
  clear hb
  go_wp2_with fail
  refine (link11 _ _ _ W6).mono ?_
  rintro e W7 ⟨rfl, hb⟩
  have H : Hid (Below W.heap.size W W7 ∧ OwnBlk W7 B 91 3 ∧ W.heap.size = B ∧ Boxed W7 S1 #[.string ⟨#[98, 101, 114, 116, 104]⟩, .slice (some ⟨F1, 0, none⟩) 2 2]) := ⟨blw_trans H.out.1 hb, H.out.2.1.later hb, H.out.2.2.1, H.out.2.2.2.later hb⟩
  clear hb
  go_wp2_with fail
  refine (link11 _ _ _ W7).mono ?_
  rintro e W8 ⟨rfl, hb⟩
  have H : Hid (Below W.heap.size W W8 ∧ OwnBlk W8 B 91 3 ∧ W.heap.size = B ∧ Boxed W8 S1 #[.string ⟨#[98, 101, 114, 116, 104]⟩, .slice (some ⟨F1, 0, none⟩) 2 2]) := ⟨blw_trans H.out.1 hb, H.out.2.1.later hb, H.out.2.2.1, H.out.2.2.2.later hb⟩
  clear hb
  obtain ⟨W9, hw⟩ : ∃ W9, W9 = (W8.alloc (.cells #[.string ⟨#[110, 101, 101, 100]⟩, .int .i64 1, .int .i64 1, .int .i64 32, .slice none 0 0, .string ⟨#[]⟩, .int .i64 0, .bool false, .bool false, .string ⟨#[49]⟩, .string ⟨#[110, 101, 101, 100]⟩, .string ⟨#[109, 111, 100, 101]⟩, .int .i64 2, .int .i64 0, .int .i64 0, .slice (some ⟨W4.heap.size, 0, none⟩) 2 2, .string ⟨#[]⟩, .int .i64 0, .bool false, .bool false, .string ⟨#[]⟩, .string ⟨#[]⟩, .string ⟨#[111, 110]⟩, .int .i64 4, .int .i64 0, .int .i64 0, .slice none 0 0, .string ⟨#[98, 101, 114, 116, 104]⟩, .int .i64 1, .bool false, .bool false, .string ⟨#[]⟩, .string ⟨#[]⟩, .string ⟨#[118, 111, 108]⟩, .int .i64 4, .int .i64 0, .int .i64 0, .slice none 0 0, .string ⟨#[118, 111, 108]⟩, .int .i64 2, .bool false, .bool false, .string ⟨#[]⟩, .string ⟨#[]⟩, .string ⟨#[111, 102]⟩, .int .i64 4, .int .i64 0, .int .i64 0, .slice none 0 0, .string ⟨#[106, 111, 98]⟩, .int .i64 3, .bool false, .bool false, .string ⟨#[]⟩, .string ⟨#[]⟩] 99)).alloc (.cells #[.string ⟨#[106, 111, 98]⟩, .slice (some ⟨W8.heap.size, 0, none⟩) 5 5] 104) := ⟨_, rfl⟩
  obtain ⟨S2, hs⟩ : ∃ S2, S2 = W8.heap.size + 1 := ⟨_, rfl⟩
  obtain ⟨F2, hf⟩ : ∃ F2, F2 = W8.heap.size := ⟨_, rfl⟩
  have hb : Below W8.heap.size W8 W9 := by rw [hw]; exact blw_alloc (blw_alloc (Below.refl _ _) _) _
  have hx : Boxed W9 S2 #[.string ⟨#[106, 111, 98]⟩, .slice (some ⟨F2, 0, none⟩) 5 5] := by
    rw [hw, hs, hf]
    have := Boxed.new (W8.alloc (.cells #[.string ⟨#[110, 101, 101, 100]⟩, .int .i64 1, .int .i64 1, .int .i64 32, .slice none 0 0, .string ⟨#[]⟩, .int .i64 0, .bool false, .bool false, .string ⟨#[49]⟩, .string ⟨#[110, 101, 101, 100]⟩, .string ⟨#[109, 111, 100, 101]⟩, .int .i64 2, .int .i64 0, .int .i64 0, .slice (some ⟨W4.heap.size, 0, none⟩) 2 2, .string ⟨#[]⟩, .int .i64 0, .bool false, .bool false, .string ⟨#[]⟩, .string ⟨#[]⟩, .string ⟨#[111, 110]⟩, .int .i64 4, .int .i64 0, .int .i64 0, .slice none 0 0, .string ⟨#[98, 101, 114, 116, 104]⟩, .int .i64 1, .bool false, .bool false, .string ⟨#[]⟩, .string ⟨#[]⟩, .string ⟨#[118, 111, 108]⟩, .int .i64 4, .int .i64 0, .int .i64 0, .slice none 0 0, .string ⟨#[118, 111, 108]⟩, .int .i64 2, .bool false, .bool false, .string ⟨#[]⟩, .string ⟨#[]⟩, .string ⟨#[111, 102]⟩, .int .i64 4, .int .i64 0, .int .i64 0, .slice none 0 0, .string ⟨#[106, 111, 98]⟩, .int .i64 3, .bool false, .bool false, .string ⟨#[]⟩, .string ⟨#[]⟩] 99)) #[.string ⟨#[106, 111, 98]⟩, .slice (some ⟨W8.heap.size, 0, none⟩) 5 5] 104
    simpa using this
  have H : Hid (Below W.heap.size W W9 ∧ OwnBlk W9 B 91 3 ∧ W.heap.size = B ∧ Boxed W9 S1 #[.string ⟨#[98, 101, 114, 116, 104]⟩, .slice (some ⟨F1, 0, none⟩) 2 2] ∧ Boxed W9 S2 #[.string ⟨#[106, 111, 98]⟩, .slice (some ⟨F2, 0, none⟩) 5 5]) := ⟨blw_trans H.out.1 hb, H.out.2.1.later hb, H.out.2.2.1, H.out.2.2.2.later hb, hx⟩
  go_upto_region 3 with fail
  rw [← hw]
  (try rw [← hs])
  (try rw [← hf])
  clear hw hs hf hb hx
  go_wp2_with fail
  refine (num11 _ _ _ _ _ _ W9).mono ?_
  rintro e W10 ⟨rfl, hb⟩
  have H : Hid (Below W.heap.size W W10 ∧ OwnBlk W10 B 91 3 ∧ W.heap.size = B ∧ Boxed W10 S1 #[.string ⟨#[98, 101, 114, 116, 104]⟩, .slice (some ⟨F1, 0, none⟩) 2 2] ∧ Boxed W10 S2 #[.string ⟨#[106, 111, 98]⟩, .slice (some ⟨F2, 0, none⟩) 5 5]) := ⟨blw_trans H.out.1 hb, H.out.2.1.later hb, H.out.2.2.1, H.out.2.2.2.1.later hb, H.out.2.2.2.2.later hb⟩
  clear hb
  go_wp2_with fail
  refine (word11 _ _ _ _ _ _).mono ?_
  rintro e W11 ⟨rfl, hb⟩
  have hb : Below W10.heap.size W10 W11 := blw_trans (blw_alloc (Below.refl _ _) _) hb
  have H : Hid (Below W.heap.size W W11 ∧ OwnBlk W11 B 91 3 ∧ W.heap.size = B ∧ Boxed W11 S1 #[.string ⟨#[98, 101, 114, 116, 104]⟩, .slice (some ⟨F1, 0, none⟩) 2 2] ∧ Boxed W11 S2 #[.string ⟨#[106, 111, 98]⟩, .slice (some ⟨F2, 0, none⟩) 5 5]) := ⟨blw_trans H.out.1 hb, H.out.2.1.later hb, H.out.2.2.1, H.out.2.2.2.1.later hb, H.out.2.2.2.2.later hb⟩
  clear hb
  obtain ⟨W12, hw⟩ : ∃ W12, W12 = (W11.alloc (.cells #[.string ⟨#[115, 105, 122, 101]⟩, .int .i64 1, .int .i64 1, .int .i64 100, .slice none 0 0, .string ⟨#[]⟩, .int .i64 0, .bool true, .bool true, .string ⟨#[]⟩, .string ⟨#[100, 105, 115, 107]⟩, .string ⟨#[99, 108, 97, 115, 115]⟩, .int .i64 2, .int .i64 0, .int .i64 0, .slice (some ⟨W10.heap.size, 0, none⟩) 2 2, .string ⟨#[]⟩, .int .i64 0, .bool false, .bool false, .string ⟨#[]⟩, .string ⟨#[]⟩, .string ⟨#[110, 111, 116, 101]⟩, .int .i64 3, .int .i64 1, .int .i64 20, .slice none 0 0, .string ⟨#[]⟩, .int .i64 0, .bool false, .bool false, .string ⟨#[]⟩, .string ⟨#[]⟩] 99)).alloc (.cells #[.string ⟨#[118, 111, 108]⟩, .slice (some ⟨W11.heap.size, 0, none⟩) 3 3] 104) := ⟨_, rfl⟩
  obtain ⟨S3, hs⟩ : ∃ S3, S3 = W11.heap.size + 1 := ⟨_, rfl⟩
  obtain ⟨F3, hf⟩ : ∃ F3, F3 = W11.heap.size := ⟨_, rfl⟩
  have hb : Below W11.heap.size W11 W12 := by rw [hw]; exact blw_alloc (blw_alloc (Below.refl _ _) _) _
  have hx : Boxed W12 S3 #[.string ⟨#[118, 111, 108]⟩, .slice (some ⟨F3, 0, none⟩) 3 3] := by
    rw [hw, hs, hf]
    have := Boxed.new (W11.alloc (.cells #[.string ⟨#[115, 105, 122, 101]⟩, .int .i64 1, .int .i64 1, .int .i64 100, .slice none 0 0, .string ⟨#[]⟩, .int .i64 0, .bool true, .bool true, .string ⟨#[]⟩, .string ⟨#[100, 105, 115, 107]⟩, .string ⟨#[99, 108, 97, 115, 115]⟩, .int .i64 2, .int .i64 0, .int .i64 0, .slice (some ⟨W10.heap.size, 0, none⟩) 2 2, .string ⟨#[]⟩, .int .i64 0, .bool false, .bool false, .string ⟨#[]⟩, .string ⟨#[]⟩, .string ⟨#[110, 111, 116, 101]⟩, .int .i64 3, .int .i64 1, .int .i64 20, .slice none 0 0, .string ⟨#[]⟩, .int .i64 0, .bool false, .bool false, .string ⟨#[]⟩, .string ⟨#[]⟩] 99)) #[.string ⟨#[118, 111, 108]⟩, .slice (some ⟨W11.heap.size, 0, none⟩) 3 3] 104
    simpa using this
  have H : Hid (Below W.heap.size W W12 ∧ OwnBlk W12 B 91 3 ∧ W.heap.size = B ∧ Boxed W12 S1 #[.string ⟨#[98, 101, 114, 116, 104]⟩, .slice (some ⟨F1, 0, none⟩) 2 2] ∧ Boxed W12 S2 #[.string ⟨#[106, 111, 98]⟩, .slice (some ⟨F2, 0, none⟩) 5 5] ∧ Boxed W12 S3 #[.string ⟨#[118, 111, 108]⟩, .slice (some ⟨F3, 0, none⟩) 3 3]) := ⟨blw_trans H.out.1 hb, H.out.2.1.later hb, H.out.2.2.1, H.out.2.2.2.1.later hb, H.out.2.2.2.2.later hb, hx⟩
  go_upto_region 4 with fail
  rw [← hw]
  (try rw [← hs])
  (try rw [← hf])
  clear hw hs hf hb hx
  obtain ⟨Wt, hw⟩ : ∃ Wt, Wt = (W12.alloc (.cells #[.string ⟨#[106, 111, 98]⟩, .string ⟨#[110, 101, 101, 100]⟩, .string ⟨#[109, 111, 100, 101]⟩, .string ⟨#[98, 105, 103]⟩, .string ⟨#[56]⟩, .string ⟨#[]⟩, .string ⟨#[118, 111, 108]⟩, .string ⟨#[110, 111, 116, 101]⟩, .string ⟨#[99, 108, 97, 115, 115]⟩, .string ⟨#[102, 97, 115, 116]⟩, .string ⟨#[]⟩, .string ⟨#[99, 108, 97, 115, 115]⟩, .string ⟨#[98, 101, 114, 116, 104]⟩, .string ⟨#[114, 111, 111, 109]⟩, .string ⟨#[122, 111, 110, 101]⟩, .string ⟨#[99]⟩, .string ⟨#[52]⟩, .string ⟨#[]⟩] 107)).alloc (.cells #[.string ⟨#[100, 101, 118]⟩, .string ⟨#[]⟩, .string ⟨#[108, 97, 98]⟩, .string ⟨#[100, 101, 118]⟩, .string ⟨#[111, 112, 115]⟩, .string ⟨#[]⟩] 80) := ⟨_, rfl⟩
  obtain ⟨T, hs⟩ : ∃ T, T = W12.heap.size + 1 := ⟨_, rfl⟩
  obtain ⟨M, hm⟩ : ∃ M, M = W12.heap.size := ⟨_, rfl⟩
  have hb : Below W12.heap.size W12 Wt := by rw [hw]; exact blw_alloc (blw_alloc (Below.refl _ _) _) _
  have hT : TmsIn Wt T [⟨⟨#[100, 101, 118]⟩, ⟨#[]⟩⟩, ⟨⟨#[108, 97, 98]⟩, ⟨#[100, 101, 118]⟩⟩, ⟨⟨#[111, 112, 115]⟩, ⟨#[]⟩⟩] := by rw [hw]; exact tms_new _ _ _ _ 80 (by simp [hs]) rfl (by decide) (by intro m hm; simp at hm; rcases hm with rfl | rfl | rfl <;> exact ⟨by decide, by decide⟩)
  have HZ : Hid (Below W.heap.size W Wt ∧ OwnBlk Wt B 91 3 ∧ W.heap.size = B ∧ TmsIn Wt T [⟨⟨#[100, 101, 118]⟩, ⟨#[]⟩⟩, ⟨⟨#[108, 97, 98]⟩, ⟨#[100, 101, 118]⟩⟩, ⟨⟨#[111, 112, 115]⟩, ⟨#[]⟩⟩] ∧ W.heap.size ≤ T ∧ B < T) := ⟨blw_trans H.out.1 hb, H.out.2.1.later hb, H.out.2.2.1, hT, by have := H.out.1.size; omega, by have := H.out.2.1.lt; omega⟩
  have q1 := H.out.2.2.2.1.later hb
  have q2 := H.out.2.2.2.2.1.later hb
  have q3 := H.out.2.2.2.2.2.later hb
  go_upto_region 6 with fail
  rw [← hw, ← hs, ← hm]
  clear hw hs hm hb hT H
  have s1z := q1.1
  have s10 : Wt.cell? ⟨S1, 0, none⟩ = some (.string ⟨#[98, 101, 114, 116, 104]⟩) := q1.2 0
  have s11 : Wt.cell? ⟨S1, 1, none⟩ = some (.slice (some ⟨F1, 0, none⟩) 2 2) := q1.2 1
  have s2z := q2.1
  have s20 : Wt.cell? ⟨S2, 0, none⟩ = some (.string ⟨#[106, 111, 98]⟩) := q2.2 0
  have s21 : Wt.cell? ⟨S2, 1, none⟩ = some (.slice (some ⟨F2, 0, none⟩) 5 5) := q2.2 1
  have s3z := q3.1
  have s30 : Wt.cell? ⟨S3, 0, none⟩ = some (.string ⟨#[118, 111, 108]⟩) := q3.2 0
  have s31 : Wt.cell? ⟨S3, 1, none⟩ = some (.slice (some ⟨F3, 0, none⟩) 3 3) := q3.2 1
  clear q1 q2 q3
  have hfz := HZ.out.2.1.frozen
  have hz := HZ.out.2.1.lt
  obtain ⟨z0, y0⟩ := HZ.out.2.1.cell 0 (by omega)
  obtain ⟨z1, y1⟩ := HZ.out.2.1.cell 1 (by omega)
  obtain ⟨z2, y2⟩ := HZ.out.2.1.cell 2 (by omega)
  go_wp2
  have c := fun i hi => puts_at 0 [.slice (some ⟨Wt.heap.size, 0, none⟩) 3 3, .slice (some ⟨M, 0, none⟩) 3 3, .slice (some ⟨T, 0, none⟩) 3 3] Wt 0 HZ.out.2.1 (by simp) i hi
  obtain ⟨Wp, hWp⟩ : ∃ Wp, Wp = ((Wt.setCell ⟨B, 0, none⟩ (.slice (some ⟨Wt.heap.size, 0, none⟩) 3 3)).setCell ⟨B, 1, none⟩ (.slice (some ⟨M, 0, none⟩) 3 3)).setCell ⟨B, 2, none⟩ (.slice (some ⟨T, 0, none⟩) 3 3) := ⟨_, rfl⟩
  have r0 : Wp.cell? ⟨B, 0, none⟩ = some (.slice (some ⟨Wt.heap.size, 0, none⟩) 3 3) := by rw [hWp]; exact c 0 (by simp)
  have r1 : Wp.cell? ⟨B, 1, none⟩ = some (.slice (some ⟨M, 0, none⟩) 3 3) := by rw [hWp]; exact c 1 (by simp)
  have r2 : Wp.cell? ⟨B, 2, none⟩ = some (.slice (some ⟨T, 0, none⟩) 3 3) := by rw [hWp]; exact c 2 (by simp)
  have hpz : B < Wp.heap.size := by rw [hWp, sc_size', sc_size', sc_size']; exact hz
  have HT : Hid (TmsIn Wp T [⟨⟨#[100, 101, 118]⟩, ⟨#[]⟩⟩, ⟨⟨#[108, 97, 98]⟩, ⟨#[100, 101, 118]⟩⟩, ⟨⟨#[111, 112, 115]⟩, ⟨#[]⟩⟩] ∧ Below W.heap.size W Wp ∧ W.heap.size ≤ T ∧ W.heap.size ≤ Wp.heap.size) := by
    obtain ⟨e1, e2, e3, e4, e5, e6⟩ := HZ.out
    have b3 : Below W.heap.size W Wp := by rw [hWp]; exact ((e1.setCell (p := ⟨B, 0, none⟩) (by show _ ≤ B; omega) _).setCell (p := ⟨B, 1, none⟩) (by show _ ≤ B; omega) _).setCell (p := ⟨B, 2, none⟩) (by show _ ≤ B; omega) _
    refine ⟨⟨by rw [hWp, sc_size', sc_size', sc_size']; exact e4.lt, e4.len, fun i hi => ?_⟩, b3, e5, b3.size⟩
    have ti := e4.at_ i hi
    have cc : ∀ o, Wp.cell? ⟨T, o, none⟩ = Wt.cell? ⟨T, o, none⟩ := fun o => by rw [hWp, sc_ne _ _ _ _ _ _ (Or.inl (by omega)), sc_ne _ _ _ _ _ _ (Or.inl (by omega)), sc_ne _ _ _ _ _ _ (Or.inl (by omega))]
    exact ⟨(cc _).trans ti.c0, (cc _).trans ti.c1, ti.sized⟩
  rw [← hWp]
  clear c hWp HZ hfz hz y0 y1 y2 s1z s10 s11 s2z s20 s21 s3z s30 s31
  refine bodyPost_ret (v := .agg #[.slice (some ⟨Wt.heap.size, 0, none⟩) 3 3, .slice (some ⟨M, 0, none⟩) 3 3, .slice (some ⟨T, 0, none⟩) 3 3]) (by simp only [results, Tryd.results58]; simp [go_sem, r0, r1, r2, hpz]) rfl ⟨⟨_, _, T, [⟨⟨#[100, 101, 118]⟩, ⟨#[]⟩⟩, ⟨⟨#[108, 97, 98]⟩, ⟨#[100, 101, 118]⟩⟩, ⟨⟨#[111, 112, 115]⟩, ⟨#[]⟩⟩], rfl, HT.out.1.later (blw_alloc (Below.refl _ _) _), HT.out.2.2.1, by decide, by decide⟩, blw_alloc HT.out.2.1 _⟩

end Go.Proofs.YtfmidkdpclfffaaDoor
