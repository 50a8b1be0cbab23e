/-
  RecMerge by the program, whole.
-/
import Derived.Test.YtejhknclhdbgfaaRgI0
namespace Go.Proofs.Ytejhknclhdbgfaa
open Go.RowKit Go.Deep

set_option maxRecDepth 8000 in
set_option maxHeartbeats 16000000 in
theorem recMergeV (x y : List Rs) (a a' : Option Addr) (c c' : Nat) (W : World) (hx : x.length ≤ 1048576) (hy : y.length ≤ 1048576) (h : RssV W a x) (h' : RssV W a' y) :
    Calls Try.prog 16 #[.slice a x.length c, .slice a' y.length c'] W fun e w' => (∃ v, e = .returned v ∧ RsRow w' W.heap.size w'.heap.size v (mergeOf x y)) ∧ Below W.heap.size W w' := by
  have HX := hid h
  have HY := hid h'
  clear h h'
  obtain ⟨wa, hwa⟩ : ∃ wa, wa = W.alloc (.cells Try.zeroCells77 77) := ⟨_, rfl⟩
  have HB : Hid (Below W.heap.size W wa) := by show Below _ _ _; rw [hwa]; exact blw_alloc (Below.refl _ _) _
  have HR : Hid (RowC wa W.heap.size W.heap.size 120 []) := by
    show RowC _ _ _ _ _
    rw [hwa]
    exact ⟨Nat.le_refl _, ⟨_, OwnBlk.alloc W _ 77 240 (by kernel_rfl)⟩, Nat.zero_le _, by decide, fun j v hv => by simp at hv⟩
  have hz : W.heap.size < wa.heap.size := by rw [hwa]; simp
  go_enter Try.func16, Try.ntmps16
  go_upto_region 2 with fail
  rw [← hwa]
  clear hwa
  go_wp2_with fail
  refine (mergedI x y a a' c c' W.heap.size 120 W wa HX.out HY.out hx hy HB.out HR.out).mono ?_
  rintro e w1 ⟨g, cap, rfl, hR, hb⟩
  have HL := hid (mergeOf_len x y)
  have HZ := hid (And.intro HX.out.z HY.out.z)
  have HR1 := hid hR
  have HB1 := hid hb
  obtain ⟨n, hn⟩ : ∃ n, n = max x.length y.length := ⟨_, rfl⟩
  rw [← hn] at HL ⊢
  have hnl : n ≤ 1048576 := by omega
  have HNN := hid hn
  obtain ⟨i0, hi, hz0, hz1, hz2⟩ := info_parts Try.infRs
  clear hR hb hn hz HR HB
  go_wp2_with (at_builtin; refine wpList_append_own _ rfl _ _ 27 rfl W.heap.size 69 i0 _ 2 24 Try.undRs hi hz0 hz1 hz2 rfl (by decide) (.slice none 0 0) 0 [] rfl ?c10 ⟨g, 0, none⟩ n cap ((mergeOf x y).flatMap RsC) rfl ?c11 ?c12 ?c13 ?c14 ?c15 ?c16 ?_)
  case c10 => exact World.ownsRow_nil _ _ _ _
  case c11 => rw [flat_len RsC 2 RsC_len, HL.out]
  case c12 => intro j u hu; have := HR1.out.at_ j u hu; rw [Addr.add_lit]; exact this
  case c13 => exact RsC_one _
  case c14 => unfold maxLen; omega
  case c15 => omega
  case c16 => exact HB1.out.size
  intro v' w3 hown hgrow _
  have HN2 : Hid (w3.ownsRow W.heap.size 69 2 v' (mergeOf x y).length ((mergeOf x y).flatMap RsC)) := by
    show World.ownsRow _ _ _ _ _ _ _
    rw [HL.out]
    simpa using hown
  have HB3 : Hid (Below W.heap.size W w3) := Below.grown HB1.out hgrow HB1.out.size (fun q hq => by cases hq)
  clear hown hgrow
  go_wp2
  go_ret
  exact ⟨⟨_, rfl, RsRow.of_owns HN2.out (fun i hi => by rw [HL.out] at hi; rw [mergeOf_at x y i (by rw [← HNN.out]; exact hi)]; exact mergeAt_sized HZ.out.1 HZ.out.2 i (by rw [← HNN.out]; exact hi)) (by rw [HL.out]; exact hnl)⟩, HB3.out⟩

theorem recMergeI (x y : List Rs) (b0 b1 : Nat) (W : World) (hx : x.length ≤ 1048576) (hy : y.length ≤ 1048576) (h : RssIn W b0 x) (h' : RssIn W b1 y) :
    Calls Try.prog 16 #[.slice (some ⟨b0, 0, none⟩) x.length x.length, .slice (some ⟨b1, 0, none⟩) y.length y.length] W fun e w' => (∃ v, e = .returned v ∧ RsRow w' W.heap.size w'.heap.size v (mergeOf x y)) ∧ Below W.heap.size W w' :=
  recMergeV x y _ _ _ _ W hx hy h.v h'.v

end Go.Proofs.Ytejhknclhdbgfaa
