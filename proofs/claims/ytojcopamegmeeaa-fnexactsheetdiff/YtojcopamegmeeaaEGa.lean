/-
  Lists put behind a row of one's own.
-/
import Derived.Maps.AppendAt
import Derived.Laws.OwnMore
import Derived.Test.YtojcopamegmeeaaUC
namespace Go.Proofs.Ytojcopamegmeeaa
open Go.RowKit Go.Deep

/-- A list put behind a row of one's own. -/
theorem gr_app {P : Program} (lo : Nat) (t ty e : TypeId) (size bytes : Nat) (z : Value) (ht : P.underlying t = some (.slice e)) (hinf : (P.info? e).map (fun i => (i.zero, i.size, i.bytes)) = some (some z, size, bytes)) (hzs : z.cells.size = size) (hs0 : 0 < size) (hb : bytes ≤ 1000) (sh : List Sh) (hk : sh.length = size)
    {W : World} {v : Value} {n : Nat} {G : List Nat} {es : List Dt} {xs : List Value} (h : Gr W lo e sh v n G es xs) {F : List Nat} {m : Nat} {ds : List Dt} {s : Value} (hr : Rep W false [.row e sh] F [.row m ds] [s]) (nd : F.Nodup) (hF : ∀ b ∈ F, lo ≤ b ∧ b ∉ G ∧ v.ownBlock ≠ some b) (hn : n + m ≤ 1000000000) (hlo : lo ≤ W.heap.size) :
    ∃ u W' G' xs', (Builtin.append_ #[t, t] ty #[v, s]).run P W = .ok u W' ∧ Gr W' lo e sh u (n + m) G' (es ++ ds) xs' ∧ W.grownBy W' v.ownBlock ∧ (u.ownBlock = v.ownBlock ∨ u.ownBlock = some W.heap.size) := by
  obtain ⟨i, hi, ei⟩ := Option.map_eq_some_iff.1 hinf
  simp only [Prod.mk.injEq] at ei
  obtain ⟨hz, hs, hby⟩ := ei
  have h63 : n + m ≤ maxLen := by unfold maxLen; omega
  have hbb : (n + m) * bytes ≤ 140737488355328 := Nat.le_trans (Nat.mul_le_mul hn hb) (by omega)
  subst hk
  have key : ∀ (u : Value) (W' : World) (G2 : List Nat) (vs : List Value), Rep W false (reps m sh) G2 ds vs → (∀ b ∈ G2, b ∈ F) → G2.Nodup → W'.ownsRow lo e sh.length u (n + m) (xs ++ vs) → W.grownBy W' v.ownBlock → (u.ownBlock = v.ownBlock ∨ u.ownBlock = some W.heap.size) → Gr W' lo e sh u (n + m) (G ++ G2) (es ++ ds) (xs ++ vs) := by
    intro u W' G2 vs hR hsub hnd2 hown hg hu
    refine ⟨hown, ?_, ?_, ?_⟩
    · rw [reps_add]
      exact (h.rep.grown hg fun b hb => (h.fr b hb).2).app (hR.grown hg fun b hb => (hF b (hsub b hb)).2.2)
    · rw [List.nodup_append]
      exact ⟨h.nd, hnd2, fun a ha b hb e => (hF b (hsub b hb)).2.1 (e ▸ ha)⟩
    · intro b hb
      rcases List.mem_append.1 hb with hb | hb
      · refine ⟨(h.fr b hb).1, fun e => ?_⟩
        rcases hu with q | q
        · exact (h.fr b hb).2 (q ▸ e)
        · rw [q] at e; injection e with e; have := h.rep.lt b hb; omega
      · refine ⟨(hF b (hsub b hb)).1, fun e => ?_⟩
        rcases hu with q | q
        · exact (hF b (hsub b hb)).2.2 (q ▸ e)
        · rw [q] at e; injection e with e; have := hR.lt b hb; omega
  rcases hr.slice with ⟨_, rfl, rfl, rfl, a, rfl⟩ | ⟨p, o, c, u, mm, G2, rfl, rfl, hnc, ho, hle, _, vs, hrg, hR⟩
  · cases a with
    | none =>
      have hrun := run_append_owned_none (P := P) (w := W) lo t ty e i sh.length ht hi v n xs h.row
      refine ⟨v, W, G ++ [], xs ++ [], hrun, key v W [] [] (by rw [reps_zero]; exact .nil) (by simp) List.nodup_nil (by rw [List.append_nil]; exact h.row) ⟨rfl, rfl, rfl, Nat.le_refl _, fun _ _ _ => rfl⟩ (Or.inl rfl), ⟨rfl, rfl, rfl, Nat.le_refl _, fun _ _ _ => rfl⟩, Or.inl rfl⟩
    | some ad =>
      obtain ⟨u, W', hrun, h2, h3, _, h5⟩ := run_append_own_at (P := P) W lo t ty e i z sh.length bytes ht hi hz hs hby hzs hs0 v n xs h.row ad 0 0 [] (by simp) (fun j u h => by simp at h) (fun u h => by cases h) h63 hbb hlo
      exact ⟨u, W', _, _, hrun, key u W' [] [] (by rw [reps_zero]; exact .nil) (by simp) List.nodup_nil h2 h3 h5, h3, h5⟩
  · rw [List.nodup_cons] at nd
    obtain ⟨u2, W', hrun, h2, h3, _, h5⟩ := run_append_own_at (P := P) W lo t ty e i z sh.length bytes ht hi hz hs hby hzs hs0 v n xs h.row ⟨p, o, none⟩ m c vs (by rw [hR.len, reps_len]) (fun j u h => by rw [Addr.add_mid]; exact hrg j u h) (fun u h => hR.raw.one u h) h63 hbb hlo
    exact ⟨u2, W', _, _, hrun, key u2 W' G2 vs hR (fun b hb => by simp [hb]) nd.2 h2 h3 h5, h3, h5⟩
/-- A list of one. -/
theorem rep1 {W : World} {t : TypeId} {sh : List Sh} {F : List Nat} {d : List Dt} {cs : Array Value} (h : Rep W false sh F d cs.toList) : Rep (W.alloc (.cells cs t)) false [.row t sh] (W.heap.size :: (F ++ [])) [.row 1 d] [.slice (some ⟨W.heap.size, 0, none⟩) 1 1] := by
  have hl : cs.size = sh.length := by rw [← h.len]; simp
  have hb : Below W.heap.size W (W.alloc (.cells cs t)) := blw_alloc (Below.refl _ _) _
  refine .row t sh W.heap.size 0 1 1 t sh.length cs.toList d F (OwnBlk.alloc W cs t _ hl) (by omega) (by simp) ⟨by unfold maxLen; omega, Nat.le_refl _⟩ (LBox.new W cs t _ rfl).at_ ?_ .nil
  rw [reps_succ, reps_zero, List.append_nil]
  exact h.later hb

end Go.Proofs.Ytojcopamegmeeaa
