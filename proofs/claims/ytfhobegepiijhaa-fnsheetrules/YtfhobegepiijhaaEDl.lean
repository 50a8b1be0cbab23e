/-
  Draws of sheets: a line.
-/
import Derived.Test.YtfhobegepiijhaaEDs
import Derived.Test.YtfhobegepiijhaaEPn
namespace Go.Proofs.Ytfhobegepiijhaa
open Go.RowKit Go.Deep

/-- A line in the making: the answer's variable, the rule's, the line's own; the words so far. -/
structure LJ (W wr : World) (R B0 B6 B7 : Nat) (r : Pl.Ru) (v1 v3 bv u : Value) (ws : List ByteArray) : Prop where
  fr : Fr R W wr
  res : WBox wr B0 48 [.string { data := #[] }, .slice none 0 0]
  rul : WBox wr B6 29 [.string r.key, v1, .bool r.many, v3]
  rep : ∃ F, Rep wr false shSheetRule F (ruD r) [.string r.key, v1, .bool r.many, v3] ∧ ∀ b ∈ F, R < b ∧ b < B7
  box : WBox wr B7 48 [.string r.key, bv]
  row : TxR wr (B7 + 1) u ws
  ord : R < W.heap.size ∧ W.heap.size ≤ B0 ∧ B0 < B6 ∧ B6 < B7
theorem LJ.step {W wr X : World} {R B0 B6 B7 : Nat} {r : Pl.Ru} {v1 v3 bv u : Value} {ws : List ByteArray} {v v' : Value} {n n' p p' : Nat} (h : LJ W wr R B0 B6 B7 r v1 v3 bv u ws) (hF : Fr R wr X) (h1 : Rd wr R v n p) (h2 : Rd X R v' n' p') : LJ W X R B0 B6 B7 r v1 v3 bv u ws := by
  have ho := h.ord
  obtain ⟨F, hr, hb⟩ := h.rep
  exact ⟨h.fr.trans hF, h.res.fr hF (by omega), h.rul.fr hF (by omega), ⟨F, hr.keep (hF.toMarks h1 h2) (fun b hb' e => by have := (hb b hb').1; omega), hb⟩, h.box.fr hF (by omega), h.row.fr hF (by omega), ho⟩
theorem LJ.app {W X X' : World} {R B0 B6 B7 : Nat} {r : Pl.Ru} {v1 v3 bv u u' : Value} {ws ws' : List ByteArray} (h : LJ W X R B0 B6 B7 r v1 v3 bv u ws) (hg : X.grownBy X' u.ownBlock) (hr' : TxR X' (B7 + 1) u' ws') : LJ W X' R B0 B6 B7 r v1 v3 bv u' ws' := by
  have ho := h.ord
  have hn : ∀ q, q < B7 + 1 → u.ownBlock ≠ some q := fun q hq e => by have := (owns_blk_lt h.row e).1; omega
  obtain ⟨F, hr, hb⟩ := h.rep
  exact ⟨h.fr.grown hg (fun b e => by have := (owns_blk_lt h.row e).1; omega) ho.1, h.res.grow hg (hn _ (by omega)), h.rul.grow hg (hn _ (by omega)), ⟨F, hr.grown hg (fun b hb' => hn b (by have := (hb b hb').2; omega)), hb⟩, h.box.grow hg (hn _ (by omega)), hr', ho⟩
theorem LJ.sto {W X : World} {R B0 B6 B7 : Nat} {r : Pl.Ru} {v1 v3 bv u : Value} {ws : List ByteArray} (h : LJ W X R B0 B6 B7 r v1 v3 bv u ws) : LJ W (X.setCell ⟨B7, 1, none⟩ u) R B0 B6 B7 r v1 v3 u u ws := by
  have ho := h.ord
  have hm : Marks (fun b => b = B7) X (X.setCell ⟨B7, 1, none⟩ u) := Marks.sc (S := fun b => b = B7) X rfl 1 u
  obtain ⟨F, hr, hb⟩ := h.rep
  exact ⟨h.fr.mks hm (fun b e => by omega) ho.1, h.res.other (by omega) _ _, h.rul.other (by omega) _ _, ⟨F, hr.keep hm (fun b hb' e => by have := (hb b hb').2; omega), hb⟩, h.box.set 1 u (by simp), owns_mks h.row hm (fun b hb' e => by omega), ho⟩
theorem args_cell {W : World} {F : List Nat} {ag : List Int} {a : Option Addr} {c : Nat} (h : Rep W false [.row 3 [.i]] F [.row ag.length (ag.map .i)] [.slice a ag.length c]) {k : Nat} (hk : k < ag.length) : ∃ p o, a = some ⟨p, o, none⟩ ∧ p ∈ F ∧ p < W.heap.size ∧ W.cell? ⟨p, o + k, none⟩ = some (.int .i64 (ag.getD k 0)) := by
  rcases h.slice with ⟨_, e0, _⟩ | ⟨p, o, c', u, m, G, hv, hF, _, ho, _, _, vs, hr, hR⟩
  · omega
  · injection hv with g1 _ _
    obtain ⟨ve, hE, hg⟩ := hR.raw.el hk hr
    have hel : el 1 k (ag.map Dt.i) = [.i (ag.getD k 0)] := by exact el_map1 0 Dt.i ag k hk
    have hE' : Raw W [.i] [.i (ag.getD k 0)] ve := by rw [← hel]; exact hE
    obtain rfl := rawN1 hE'
    exact ⟨p, o, g1, by rw [hF]; exact List.mem_cons_self .., ho.lt, by have := rA_get hg 0 _ rfl; simpa using this⟩
def bnd (p k : Nat) : Nat := p + 10 + 12000 * k
theorem bnd_succ {p k q pw : Nat} (h : pw ≤ bnd p k) (h' : q ≤ pw + 11000) : q ≤ bnd p (k + 1) := by
  have e : bnd p (k + 1) = bnd p k + 12000 := by simp only [bnd, Nat.mul_add, Nat.mul_one, Nat.add_assoc]
  rw [e]
  generalize bnd p k = b at h
  omega
theorem bnd_le {p k q : Nat} (h : q ≤ bnd p k) (h3 : k ≤ 3) : q ≤ p + 50000 := by unfold bnd at h; omega
theorem rep_tx_vals {W : World} {tt : Bool} {G : List Nat} : ∀ {ws : List ByteArray} {vs : List Value}, Rep W tt (reps ws.length [.s]) G (txD ws) vs → vs = txV ws
  | [], vs, h => by
    have h' : Rep W tt [] G [] vs := h
    exact h'.c_n.1
  | x :: ws, vs, h => by
    rw [List.length_cons, reps_succ] at h
    have h' : Rep W tt (.s :: reps ws.length [.s]) G (.s x :: txD ws) vs := h
    obtain ⟨y, rfl, h2⟩ := h'.c_s
    rw [rep_tx_vals h2]; rfl
theorem TxR.lower {W : World} {lo lo' : Nat} {v : Value} {l : List ByteArray} (h : TxR W lo v l) (hl : lo' ≤ lo) : TxR W lo' v l := by
  refine ⟨h.1, h.2.imp id ?_⟩
  rintro ⟨g, cap, cur, h1, h2, h3, h4⟩
  exact ⟨g, cap, cur, h1, Nat.le_trans hl h2, h3, h4⟩
theorem tx_push_at {w : World} {ops : Array Oper} {rest : List Oper} {o : Oper} {a : Act} {Q : Exit → Act → World → Prop} (hgd : o.guard = none) (s x : Operand)
    (ho : o.op = .call { callee := .builtin .append, args := #[s, x], argTypes := #[27, 27] }) (lo : Nat) (v : Value) (l : List ByteArray) (hs : a.eval s = v) (hown : TxR w lo v l)
    (B off m c : Nat) (news : List ByteArray) (hx : a.eval x = .slice (some ⟨B, off, none⟩) m c) (hl : news.length = m) (hnews : ∀ j u, (txV news)[j]? = some u → w.cell? ((⟨B, off, none⟩ : Addr).add j) = some u)
    (hm : 0 < m) (h63 : l.length + m ≤ 1073741824) (hlo : lo ≤ w.heap.size)
    (h : ∀ g cap w', TxR w' lo (.slice (some ⟨g, 0, none⟩) (l.length + m) cap) (l ++ news) → w.grownBy w' v.ownBlock → wpList Try.prog ops Q rest (a.put o.dst (.slice (some ⟨g, 0, none⟩) (l.length + m) cap)) w') : wpList Try.prog ops Q (o :: rest) a w := by
  obtain ⟨i0, hi, hz0, hz1, hz2⟩ := uinfo Try.info_text
  refine wpList_append_lies w hgd s x 27 ho lo 9 i0 _ 1 16 Try.under_texts hi hz0 hz1 hz2 rfl (by omega) v l.length (txV l) hs hown ⟨B, off, none⟩ m c (txV news) hx (by rw [txV_len, hl, Nat.mul_one]) hnews
    (fun u hu => by obtain ⟨b, _, rfl⟩ := List.mem_map.1 hu; rfl) hm (by unfold maxLen; omega) (by omega) hlo _ rfl fun g cap w' q1 q2 _ _ => h g cap w' ?_ q2
  unfold TxR
  rw [txV_app, List.length_append, hl]
  exact q1
theorem Pl.rules_len (kind : ByteArray) : (Pl.rulesOf kind).length ≤ 100 := by
  unfold Pl.rulesOf
  split
  · decide
  · split
    · decide
    · split <;> decide
theorem Pl.rules_args3 (kind : ByteArray) : ∀ r ∈ Pl.rulesOf kind, r.args.length ≤ 3 := by
  unfold Pl.rulesOf
  split
  · decide
  · split
    · decide
    · split
      · decide
      · intro r hr; cases hr
theorem Pl.rules_dflt (kind : ByteArray) : ∀ r ∈ Pl.rulesOf kind, r.dflt.length ≤ 3 ∧ (r.many = false → 1 ≤ r.dflt.length) ∧ ∀ x ∈ r.dflt, x.size ≤ 4000 := by
  unfold Pl.rulesOf
  split
  · decide
  · split
    · decide
    · split
      · decide
      · intro r hr; cases hr
theorem ruD_len (r : Pl.Ru) : (ruD r).length = 4 := rfl
theorem Rep.elF {w : World} {tt : Bool} {n q : Nat} {sh : List Sh} {G : List Nat} {es : List Dt} {vs : List Value} (h : Rep w tt (reps n sh) G es vs) (hq : q < n) {p o : Nat} (hr : w.rangeAt p o vs) : ∃ ve G', Rep w tt sh G' (Go.Proofs.Ytfhobegepiijhaa.el sh.length q es) ve ∧ w.rangeAt p (o + q * sh.length) ve ∧ ∀ b ∈ G', b ∈ G := by
  rw [reps_cut hq] at h
  obtain ⟨F1, F2, d1, d2, c1, c2, rfl, rfl, rfl, h1, h2⟩ := Rep.cut _ h
  obtain ⟨F3, F4, d3, d4, c3, c4, rfl, rfl, rfl, h3, h4⟩ := Rep.cut _ h2
  rw [el_mid (by rw [h1.raw.typ.len, reps_len]) h3.raw.typ.len]
  refine ⟨c3, F3, h3, ?_, fun b hb => by simp [hb]⟩
  have := (rA_cut (rA_cut hr).2).1
  rwa [h1.len, reps_len] at this
theorem rule_rep {W : World} {l : List Pl.Ru} {F : List Nat} {v : Value} (h : Rep W false [.row 29 shSheetRule] F [rulesD l] [v]) {k : Nat} (hk : k < l.length) : ∃ p o c a1 c1 a3 n3 c3 F', v = .slice (some ⟨p, o, none⟩) l.length c ∧ p < W.heap.size ∧ W.rangeAt p (o + k * 4) [.string (l.getD k Pl.ruNo).key, .slice a1 (l.getD k Pl.ruNo).args.length c1, .bool (l.getD k Pl.ruNo).many, .slice a3 n3 c3] ∧ Rep W false shSheetRule F' (ruD (l.getD k Pl.ruNo)) [.string (l.getD k Pl.ruNo).key, .slice a1 (l.getD k Pl.ruNo).args.length c1, .bool (l.getD k Pl.ruNo).many, .slice a3 n3 c3] ∧ ∀ b ∈ F', b ∈ F := by
  rcases h.slice with ⟨_, e0, _⟩ | ⟨p, o, c, u, m, G, hv, hF, _, ho, _, _, vs, hr, hR⟩
  · omega
  · obtain ⟨ve, G', hE, hg, hb⟩ := hR.elF hk hr
    have e : el shSheetRule.length k (l.flatMap ruD) = ruD (l.getD k Pl.ruNo) := el_flat Pl.ruNo ruD 4 ruD_len l k hk
    rw [e] at hE
    have hE' : Rep W false shSheetRule G' (ruD (l.getD k Pl.ruNo)) ve := hE
    obtain ⟨F1, v1, F3, v3, hFF, hc, r1, r3⟩ := repSheetRule hE'
    subst hc
    obtain ⟨a1, c1, h1⟩ := r1.raw.len0
    obtain ⟨a3, c3, h3⟩ := r3.raw.len0
    subst h1; subst h3
    exact ⟨p, o, c, a1, c1, a3, _, c3, G', hv, ho.lt, hg, hE', fun b hb' => by rw [hF]; exact List.mem_cons_of_mem _ (hb b hb')⟩
def VLn (R : Nat) (wv av : Value) (B6 B7 p1 o1 k : Nat) (z : Int) : Nat → Value → World → Prop
  | 0, u, _ => u = .pointer (some ⟨B7, 1, none⟩)
  | 1, u, _ => u = wv
  | 2, u, _ => u = .pointer (some ⟨R, 0, none⟩)
  | 3, u, _ => u = .pointer (some ⟨B6, 1, none⟩)
  | 4, u, _ => u = av
  | 5, u, _ => u = .int .i64 (k : Int)
  | 6, u, _ => u = .pointer (some ⟨p1, o1 + k, none⟩)
  | 7, u, _ => u = .int .i64 z
  | 8, u, _ => ∃ s : ByteArray, u = .string s ∧ s.size ≤ 4000
  | 9, u, W => ∃ (B : Nat) (s : ByteArray), u = .slice (some ⟨B, 0, none⟩) 1 1 ∧ R < B ∧ B < W.heap.size ∧ W.cell? ⟨B, 0, none⟩ = some (.string s) ∧ s.size ≤ 4000
  | _, _, _ => True
theorem VLn_mono (R : Nat) (wv av : Value) (B6 B7 p1 o1 k : Nat) (z : Int) : ∀ j u W W', Fr R W W' → R < W.heap.size → VLn R wv av B6 B7 p1 o1 k z j u W → VLn R wv av B6 B7 p1 o1 k z j u W' := by
  intro j u W W' hb hlt h
  match j with
  | 0 => exact h
  | 1 => exact h
  | 2 => exact h
  | 3 => exact h
  | 4 => exact h
  | 5 => exact h
  | 6 => exact h
  | 7 => exact h
  | 8 => exact h
  | 9 =>
    obtain ⟨B, s, e, h1, h2, hc, hs⟩ := h
    exact ⟨B, s, e, h1, Nat.lt_of_lt_of_le h2 hb.bel.size, (hb.cell h1 h2).trans hc, hs⟩
  | n + 10 => exact trivial

set_option maxRecDepth 8000 in
set_option maxHeartbeats 8000000 in
theorem drawLine (R : Nat) (v : Value) (len p : Nat) (kind : ByteArray) (W0 : World) (h : Rd W0 R v len p) (hp : p ≤ 500000) (hkd : 1 ≤ (Pl.rulesOf kind).length) :
    Calls Try.prog 18 #[.pointer (some ⟨R, 0, none⟩), .string kind] W0 fun e W' => (∃ key wv ws, e = .returned (.agg #[.string key, wv]) ∧ TxR W' (R + 1) wv ws ∧ ws.length ≤ 10 ∧ ∀ x ∈ ws, x.size ≤ 4000) ∧ Fr R W0 W' ∧ ∃ q, q ≤ p + 200000 ∧ Rd W' R v len q := by
  have HR0 := uh h
  clear h
  have HL100 := uh (Pl.rules_len kind)
  have HARG := uh (Pl.rules_args3 kind)
  have HDFL := uh (Pl.rules_dflt kind)
  obtain ⟨Wa, hWa⟩ : ∃ Wa, Wa = W0.alloc (.cells #[.string { data := #[] }, .slice none 0 0] 48) := ⟨_, rfl⟩
  have hba : Below W0.heap.size W0 Wa := by rw [hWa]; exact blw_alloc (Below.refl _ _) _
  have hza : Wa.heap.size = W0.heap.size + 1 := by rw [hWa]; simp
  have HBX : Hid (WBox Wa W0.heap.size 48 [.string { data := #[] }, .slice none 0 0]) := by show WBox _ _ _ _; rw [hWa]; exact WBox.new _ _ _ _ rfl
  have HRa := uh (HR0.out.later hba)
  have HC := uh (sheetRulesS kind Wa)
  have HBA := uh hba
  have HZA := uh hza
  clear hba hza
  go_enter Try.func18, Try.ntmps18
  go_wp2_with fail
  rw [← hWa]
  clear hWa
  refine HC.out.mono ?_
  rintro e W1 ⟨lv, F, rfl, hrep, nd, lo, hb1⟩
  obtain ⟨l, hl⟩ : ∃ l, l = Pl.rulesOf kind := ⟨_, rfl⟩
  rw [← hl] at hrep HL100 HARG HDFL hkd
  obtain ⟨va, vc, hlv⟩ := hrep.raw.len0
  subst hlv
  clear hl nd HC
  have hl100 := HL100.out
  have HR1 := uh (HRa.out.later hb1)
  have HREP := uh hrep
  have HLO := uh lo
  have HB1 := uh hb1
  have HBX1 := uh (HBX.out.later hb1)
  clear hrep lo hb1 HBX
  have HP := uh (pick_any R v len p l.length W1 HR1.out (by omega) (by omega))
  go_wp2_with fail
  refine HP.out.mono ?_
  rintro e W2 ⟨⟨ri, rfl, hri⟩, hF2, hR2⟩
  obtain ⟨i, rfl, hi⟩ := hri.nat
  clear hri
  have hil : i < l.length := by have := hi (by omega); omega
  have HR2 := uh hR2
  have HF2 := uh hF2
  have HRR := uh HR0.out.own.lt
  have HREP2 := uh (HREP.out.keep (hF2.toMarks HR1.out hR2) (fun b hb e => by have := HLO.out b hb; have := HZA.out; have := HRR.out; omega))
  have HBX2 := uh (HBX1.out.fr hF2 HRR.out)
  have HFR2 : Hid (Fr R W0 W2) := ((Fr.of_below HBA.out HRR.out).trans (Fr.of_below HB1.out HRa.out.own.lt)).trans hF2
  have HSZ : Hid (W0.heap.size < W2.heap.size) := by have := HBA.out.size; have := HB1.out.size; have := hF2.bel.size; have := HZA.out; show _ < _; omega
  clear hi hR2 hF2 HP HREP HBX1 HR1 HB1 HF2 HRa HBA
  obtain ⟨pl, ol, cl, a1, c1, a3, n3, c3, F', hv, hpl, hg, hrr, hFF⟩ := rule_rep HREP2.out hil
  injection hv with e1 _ e3
  subst e1; subst e3
  have y0 : W2.cell? ⟨pl, ol + i * 4, none⟩ = some (.string (l.getD i Pl.ruNo).key) := rA_get hg 0 _ rfl
  have y1 := rA_get hg 1 _ rfl
  have y2 := rA_get hg 2 _ rfl
  have y3 := rA_get hg 3 _ rfl
  have HRRP := uh hrr
  have HFF : Hid (∀ b ∈ F', R < b ∧ b < W2.heap.size) := fun b hb => ⟨by have := HLO.out b (hFF b hb); have := HZA.out; have := HRR.out; omega, hrr.lt b hb⟩
  have HAR3 : Hid ((l.getD i Pl.ruNo).args.length ≤ 3 ∧ (l.getD i Pl.ruNo).dflt.length ≤ 3 ∧ ((l.getD i Pl.ruNo).many = false → 1 ≤ (l.getD i Pl.ruNo).dflt.length) ∧ ∀ x ∈ (l.getD i Pl.ruNo).dflt, x.size ≤ 4000) := by
    have e : l.getD i Pl.ruNo = l[i] := by simp [hil]
    rw [e]; exact ⟨HARG.out _ (List.getElem_mem hil), HDFL.out _ (List.getElem_mem hil)⟩
  obtain ⟨r, hr⟩ : ∃ r, r = l.getD i Pl.ruNo := ⟨_, rfl⟩
  rw [← hr] at y0 y1 y2 HRRP HAR3
  have hi0 : (0 : Int) ≤ (i : Int) := by omega
  have hin : (i : Int) < (l.length : Int) := by omega
  clear hr hg hrr hFF HREP2 HLO HARG HDFL
  obtain ⟨W4, hW4⟩ : ∃ W4, W4 = (W2.alloc (.cells #[.string r.key, .slice a1 r.args.length c1, .bool r.many, .slice a3 n3 c3] 29)).alloc (.cells #[.string r.key, .slice none 0 0] 48) := ⟨_, rfl⟩
  have hb24 : Below W2.heap.size W2 W4 := by rw [hW4]; exact blw_alloc (blw_alloc (Below.refl _ _) _) _
  have HJ4 : Hid (LJ W0 W4 R W0.heap.size W2.heap.size (W2.heap.size + 1) r (.slice a1 r.args.length c1) (.slice a3 n3 c3) (.slice none 0 0) (.slice none 0 0) []) := by
    refine ⟨HFR2.out.trans (Fr.of_below hb24 HR2.out.own.lt), HBX2.out.later hb24, ?_, ⟨F', HRRP.out.later hb24, fun b hb => ⟨(HFF.out b hb).1, by have := (HFF.out b hb).2; omega⟩⟩, ?_, TxR.nil _ _, HRR.out, Nat.le_refl _, HSZ.out, by omega⟩
    · rw [hW4]
      exact (WBox.new W2 [.string r.key, .slice a1 r.args.length c1, .bool r.many, .slice a3 n3 c3] 29 _ rfl).later (blw_alloc (Below.refl _ _) _)
    · rw [hW4]
      exact WBox.new _ [.string r.key, .slice none 0 0] 48 _ (by simp)
  have HR4 := uh (HR2.out.later hb24)
  have hz2 : (W2.alloc (.cells #[.string r.key, .slice a1 r.args.length c1, .bool r.many, .slice a3 n3 c3] 29)).heap.size = W2.heap.size + 1 := by simp
  go_upto_region 4 with fail
  rw [← hW4]
  obtain ⟨B6, hB6⟩ : ∃ B6, B6 = W2.heap.size := ⟨_, rfl⟩
  obtain ⟨B7, hB7⟩ : ∃ B7, B7 = W2.heap.size + 1 := ⟨_, rfl⟩
  obtain ⟨B0, hB0⟩ : ∃ B0, B0 = W0.heap.size := ⟨_, rfl⟩
  rw [← hB7, ← hB6, ← hB0]
  rw [← hB7, ← hB6, ← hB0] at HJ4
  clear hW4 hb24 hz2 hB6 hB7 hB0 y0 y1 y2 y3 HR2 HRRP HFF HFR2 HBX2 HSZ HRR HZA hpl
  have hm0 := HJ4.out.rul.get 2 _ rfl
  have hml := HJ4.out.rul.own.lt
  cases hmany : r.many
  rotate_left
  · rw [hmany] at hm0
    clear hml
    go_upto_region 7 with fail
    clear hm0 hmany
    go_wp2
    go_loopw [8] (fun i wr => ∃ (k : Nat) (ws : List ByteArray) (q : Nat), k ≤ r.args.length ∧ i = .int .i64 k ∧ ws.length = k ∧ q ≤ bnd p k ∧ Hid (∃ u, LJ W0 wr R B0 B6 B7 r (.slice a1 r.args.length c1) (.slice a3 n3 c3) u u ws ∧ Rd wr R v len q ∧ ∀ x ∈ ws, x.size ≤ 4000)) (fun i _ => r.args.length - (intOf i).toNat)
    case atStart => exact ⟨0, [], p + 1, Nat.zero_le _, rfl, rfl, by unfold bnd; omega, ⟨_, HJ4.out, HR4.out, fun x hx => by cases hx⟩⟩
    case round =>
      obtain ⟨k, ws, pw, hk, rfl, hwl, hpw, HX⟩ := hrel
      obtain ⟨u, hJ, hRW, hS4⟩ := HX.out
      have HJ := uh hJ
      have HRW := uh hRW
      have HS4 := uh hS4
      have HKL := uh hwl
      have HQ4 := uh hpw
      have ha3 := HAR3.out.1
      have hpw3 := bnd_le HQ4.out (show k ≤ 3 by omega)
      clear hpw
      obtain ⟨wa, wc, hu⟩ := hJ.row.shape
      subst hu
      clear hJ hRW hS4 HX
      have yb0 := HJ.out.rul.get 1 _ rfl
      have ybl := HJ.out.rul.own.lt
      by_cases hlt : k < r.args.length
      · obtain ⟨Fr', hrr, hfb⟩ := HJ.out.rep
        obtain ⟨F1, v1, F3, v3, hFF, hc, r1, r3⟩ := repSheetRule hrr
        injection hc with _ hc
        injection hc with hc1 _
        subst hc1
        obtain ⟨p1, o1, e1, hpF, hp1, hcell⟩ := args_cell r1 hlt
        subst e1
        obtain ⟨z, hz⟩ : ∃ z, z = r.args.getD k 0 := ⟨_, rfl⟩
        have HP1 : Hid (R < p1 ∧ p1 < wr.heap.size ∧ wr.cell? ⟨p1, o1 + k, none⟩ = some (.int .i64 z)) := ⟨(hfb p1 (by rw [hFF]; simp [hpF])).1, hp1, by rw [hz]; exact hcell⟩
        have HW4 : Hid (ws.length ≤ 3) := by show _ ≤ _; omega
        have hk0 : (0 : Int) ≤ (k : Int) := by omega
        have hkn : (k : Int) < (r.args.length : Int) := by omega
        clear hrr hfb r1 r3 hFF hpF hcell hz hp1
        go_upto_region 10 with fail
        clear yb0 ybl
        refine RY.region_finR R v len pw HRW.out (VLn R (.slice wa ws.length wc) (.slice (some ⟨p1, o1, none⟩) r.args.length c1) B6 B7 p1 o1 k z) (VLn_mono R _ _ _ _ _ _ _ _) (fun u W' => ∃ ws', LJ W0 W' R B0 B6 B7 r (.slice (some ⟨p1, o1, none⟩) r.args.length c1) (.slice a3 n3 c3) (.slice wa ws.length wc) u ws' ∧ ws'.length = ws.length + 1 ∧ (∀ x ∈ ws', x.size ≤ 4000) ∧ ∃ q, q ≤ pw + 11000 ∧ Rd W' R v len q) (fun u W' => ∃ ws', LJ W0 W' R B0 B6 B7 r (.slice (some ⟨p1, o1, none⟩) r.args.length c1) (.slice a3 n3 c3) u u ws' ∧ ws'.length = ws.length + 1 ∧ (∀ x ∈ ws', x.size ≤ 4000) ∧ ∃ q, q ≤ pw + 11000 ∧ Rd W' R v len q) (.pointer (some ⟨B7, 1, none⟩)) 10 12 53 54 (by kernel_rfl) (by kernel_rfl) (by kernel_rfl) (by kernel_rfl) (by kernel_rfl) rfl (by kernel_rfl) _ _ _ rfl rfl rfl rfl rfl rfl (by kernel_rfl) (by kernel_rfl) ?_ ?_ ?_ ?_ ?_
        · intro i' o' ho hin a X pp hX hR hpp hk hd
          have hJ := HJ.out.step hX HRW.out hR
          have yb := hJ.box.get 1 _ rfl
          have yr := hJ.rul.get 1 _ rfl
          have yc : X.cell? ⟨p1, o1 + k, none⟩ = some (.int .i64 z) := (hX.cell HP1.out.1 HP1.out.2.1).trans HP1.out.2.2
          match i', ho with
          | 0, ho =>
            injection ho with ho; subst ho
            have e7 : a.tmps[7]?.getD undef = .pointer (some ⟨B7, 0, none⟩) := (RY.ev_tmp a 7).trans ((hk 7 (by kernel_rfl)).trans rfl)
            exact Or.inl ⟨.pointer (some ⟨B7, 1, none⟩), X, by simp [execOp, go_sem, e7], Below.refl _ _, rfl⟩
          | 1, ho =>
            injection ho with ho; subst ho
            have e43 : a.tmps[43]?.getD undef = _ := (RY.ev_tmp a 43).trans (hd 0 _ 43 rfl rfl ⟨⟨0, .data⟩, by simp, rfl, rfl⟩ (by decide))
            exact Or.inl ⟨.slice wa ws.length wc, X, by simp [execOp, go_sem, e43, yb], Below.refl _ _, rfl⟩
          | 2, ho =>
            injection ho with ho; subst ho
            have e0 : a.tmps[0]?.getD undef = .pointer (some ⟨R, 0, none⟩) := (RY.ev_tmp a 0).trans ((hk 0 (by kernel_rfl)).trans rfl)
            exact Or.inl ⟨.pointer (some ⟨R, 0, none⟩), X, by simp [execOp, go_sem, e0], Below.refl _ _, rfl⟩
          | 3, ho =>
            injection ho with ho; subst ho
            have e6 : a.tmps[6]?.getD undef = .pointer (some ⟨B6, 0, none⟩) := (RY.ev_tmp a 6).trans ((hk 6 (by kernel_rfl)).trans rfl)
            exact Or.inl ⟨.pointer (some ⟨B6, 1, none⟩), X, by simp [execOp, go_sem, e6], Below.refl _ _, rfl⟩
          | 4, ho =>
            injection ho with ho; subst ho
            have e46 : a.tmps[46]?.getD undef = _ := (RY.ev_tmp a 46).trans (hd 3 _ 46 rfl rfl ⟨⟨3, .data⟩, by simp, rfl, rfl⟩ (by decide))
            exact Or.inl ⟨.slice (some ⟨p1, o1, none⟩) r.args.length c1, X, by simp [execOp, go_sem, e46, yr], Below.refl _ _, rfl⟩
          | 5, ho =>
            injection ho with ho; subst ho
            have e8 : a.tmps[8]?.getD undef = .int .i64 (k : Int) := (RY.ev_tmp a 8).trans ((hk 8 (by kernel_rfl)).trans rfl)
            exact Or.inl ⟨.int .i64 (k : Int), X, by simp [execOp, go_sem, e8], Below.refl _ _, rfl⟩
          | 6, ho =>
            injection ho with ho; subst ho
            have e47 : a.tmps[47]?.getD undef = _ := (RY.ev_tmp a 47).trans (hd 4 _ 47 rfl rfl ⟨⟨4, .data⟩, by simp, rfl, rfl⟩ (by decide))
            have e48 : a.tmps[48]?.getD undef = _ := (RY.ev_tmp a 48).trans (hd 5 _ 48 rfl rfl ⟨⟨5, .data⟩, by simp, rfl, rfl⟩ (by decide))
            exact Or.inl ⟨.pointer (some ⟨p1, o1 + k, none⟩), X, by simp [execOp, go_sem, e47, e48, hk0, hkn], Below.refl _ _, rfl⟩
          | 7, ho =>
            injection ho with ho; subst ho
            have e49 : a.tmps[49]?.getD undef = _ := (RY.ev_tmp a 49).trans (hd 6 _ 49 rfl rfl ⟨⟨6, .data⟩, by simp, rfl, rfl⟩ (by decide))
            exact Or.inl ⟨.int .i64 z, X, by simp [execOp, go_sem, e49, yc], Below.refl _ _, rfl⟩
          | 8, ho =>
            injection ho with ho; subst ho
            have e45 : a.tmps[45]?.getD undef = _ := (RY.ev_tmp a 45).trans (hd 2 _ 45 rfl rfl ⟨⟨2, .data⟩, by simp, rfl, rfl⟩ (by decide))
            have e50 : a.tmps[50]?.getD undef = _ := (RY.ev_tmp a 50).trans (hd 7 _ 50 rfl rfl ⟨⟨7, .data⟩, by simp, rfl, rfl⟩ (by decide))
            refine Or.inr ⟨24, #[.pointer (some ⟨R, 0, none⟩), .int .i64 z], by simp [go_sem, e45, e50], (drawWordOf R v len pp z X hR (by omega)).mono ?_⟩
            rintro e W' ⟨⟨s, rfl, hs⟩, hF, q, hq, hRq⟩
            exact ⟨_, rfl, hF, ⟨q, hq, hRq⟩, s, rfl, hs⟩
          | 9, ho =>
            injection ho with ho; subst ho
            obtain ⟨s, e51, hs⟩ := hd 8 _ 51 rfl rfl ⟨⟨8, .data⟩, by simp, rfl, rfl⟩ (by decide)
            have f51 := (RY.ev_tmp a 51).trans e51
            exact Or.inl ⟨.slice (some ⟨X.heap.size, 0, none⟩) 1 1, X.alloc (.cells #[.string s] 9), by simp [execOp, go_sem, f51], blw_alloc (Below.refl _ _) _, X.heap.size, s, rfl, hR.own.lt, by simp, (World.cell?_alloc_at _ _ _ _ rfl).trans rfl, hs⟩
          | n + 10, ho => omega
        · intro a X pp hX hR hpp hk hd
          have hJ := HJ.out.step hX HRW.out hR
          have e44 := hd 1 _ 44 rfl rfl ⟨⟨1, .data⟩, by simp, rfl, rfl⟩ (by decide)
          obtain ⟨B, s, e52, h1, h2, hc, hs⟩ := hd 9 _ 52 rfl rfl ⟨⟨9, .data⟩, by simp, rfl, rfl⟩ (by decide)
          obtain ⟨g, cap, X', hrun, hrow, hgr⟩ := tx_run hJ.row 27 B 1 1 [s] rfl (fun j y hy => by match j, hy with | 0, hy => (injection hy with hy; subst hy; exact hc)) (by decide) (by have := HW4.out; omega) (by have := hJ.box.own.lt; omega)
          refine ⟨_, X', uexec_append (.tmp 44) (.tmp 52) 27 rfl e44 e52 hrun, ws ++ [s], hJ.app hgr hrow, by simp, ?_, pp, by omega, hR.grown hgr (fun b hb => by have := (owns_blk_lt hJ.row hb).1; have := hJ.ord; omega)⟩
          intro x hx
          rcases List.mem_append.1 hx with q | q
          · exact HS4.out x q
          · simp at q; rw [q]; exact hs
        · intro a X hk
          have e7 : a.tmps[7]?.getD undef = .pointer (some ⟨B7, 0, none⟩) := (RY.ev_tmp a 7).trans ((hk 7 (by kernel_rfl)).trans rfl)
          simp [execOp, go_sem, e7]
        · intro a X hK hp
          obtain ⟨ws', hJ, hl, hs, q, hq, hR⟩ := hK
          obtain ⟨ua, uc, hu⟩ := hJ.row.shape
          have t53 := (RY.ev_tmp a 53).trans hu
          have t54 := (RY.ev_tmp a 54).trans hp
          have zb := hJ.box.get 1 _ rfl
          have zf := hJ.box.own.frozen 1
          refine ⟨X.setCell ⟨B7, 1, none⟩ (a.eval (.tmp 53)), by rw [hu]; simp [execOp, go_sem, t53, t54, zb, zf], ws', hJ.sto, hl, hs, q, hq, hR.mks (Marks.sc (S := fun b => b = B7) X rfl 1 _) (fun b e => by have := hJ.ord; omega)⟩
        · rintro vs X hK e54
          simp only [RY.putAll, Act.put, List.setIfInBounds_toArray, List.set_cons_zero, List.set_cons_succ]
          generalize vs 43 = s43
          generalize vs 44 = s44
          generalize vs 45 = s45
          generalize vs 46 = s46
          generalize vs 47 = s47
          generalize vs 48 = s48
          generalize vs 49 = s49
          generalize vs 50 = s50
          generalize vs 51 = s51
          generalize vs 52 = s52
          generalize vs 53 = s53 at hK
          rw [e54]
          obtain ⟨ws', hJ, hl, hs, q, hq, hR⟩ := hK
          have HN := uh (And.intro hJ (And.intro hl (And.intro hs (And.intro hq hR))))
          clear hJ hl hs hq hR e54
          go_wp2
          go_roundw
          case rel => exact ⟨k + 1, ws', q, by omega, by go_num, by have := HN.out.2.1; have := HKL.out; omega, bnd_succ HQ4.out HN.out.2.2.2.1, ⟨_, HN.out.1, HN.out.2.2.2.2, HN.out.2.2.1⟩⟩
          case measure => simp [intOf]; omega
      obtain rfl : k = r.args.length := by omega
      obtain ⟨q, hq⟩ : ∃ q, q = pw := ⟨_, rfl⟩
      rw [← hq] at HRW hpw3
      clear hq
      have hxa := HJ.out.box.at_
      have hxl := HJ.out.box.own.lt
      have hol := HJ.out.res.own.lt
      have hth : wr.there B0 0 (#[.string r.key, .slice wa ws.length wc] : Array Value).size := uthere HJ.out.res.own _ _ (by simp)
      obtain ⟨we, hwe⟩ : ∃ we, we = wr.setCells B0 0 [.string r.key, .slice wa ws.length wc] := ⟨_, rfl⟩
      have hrt : we.rangeAt B0 0 [.string r.key, .slice wa ws.length wc] := by rw [hwe]; exact World.rangeAt_setCells_same _ _ _ _ hth
      have hmk : Marks (fun b => b = B0) wr we := by rw [hwe]; exact mks_scs (S := fun b => b = B0) rfl _ _ _
      have hoo := HJ.out.ord
      have HEND : Hid (Fr R W0 we ∧ Rd we R v len q ∧ TxR we (R + 1) (.slice wa ws.length wc) ws) := ⟨HJ.out.fr.mks hmk (fun b e => by omega) hoo.1, HRW.out.mks hmk (fun b e => by omega), TxR.lower (lo := B7 + 1) (owns_mks HJ.out.row hmk (fun b hb e => by omega)) (by omega)⟩
      clear hmk hoo
      go_wp2_with (first | (refine wpList_load_mid rfl 48 _ rfl B7 0 rfl [.string r.key, .slice wa ws.length wc] _ hxa Try.underlying48 rfl (by kernel_rfl) ?_) | (refine wpList_store_mid rfl 48 _ _ rfl B0 0 #[.string r.key, .slice wa ws.length wc] rfl rfl hth (by kernel_rfl) (by simp [Value.oneCell']) ?_))
      first | rw [← hwe] | (simp only [List.toList_toArray]; rw [← hwe])
      try simp only [Act.put]
      refine bodyPost_ret (v := .agg #[.string r.key, .slice wa ws.length wc]) (by simp [results, Try.results18, asAddr, run_loadVar_mid (P := Try.prog) _ _ _ 48 [.string r.key, .slice wa ws.length wc] _ hrt Try.underlying48 rfl (by kernel_rfl)]) rfl ?_
      exact ⟨⟨r.key, _, ws, rfl, HEND.out.2.2, by omega, HS4.out⟩, HEND.out.1, q, by omega, HEND.out.2.1⟩
  rw [hmany] at hm0
  have HP := uh (pick_any R v len (p + 1) 4 W4 HR4.out (by omega) (by omega))
  go_wp2_with fail
  refine HP.out.mono ?_
  rintro e W5 ⟨⟨rm, rfl, hrm⟩, hF5, hR5⟩
  obtain ⟨m, rfl, hm⟩ := hrm.nat
  have HJ5 := uh (HJ4.out.step hF5 HR4.out hR5)
  have HR5 := uh hR5
  clear hrm hm hF5 hR5 HP hm0 hml HJ4 HR4
  by_cases m0 : m = 0
  rotate_left
  · have d0 : ((m : Int) == 0) = false := by simp; omega
    go_upto_region 7 with fail
    clear d0 hmany m0
    go_wp2
    go_loopw [8] (fun i wr => ∃ (k : Nat) (ws : List ByteArray) (q : Nat), k ≤ r.args.length ∧ i = .int .i64 k ∧ ws.length = k ∧ q ≤ bnd p k ∧ Hid (∃ u, LJ W0 wr R B0 B6 B7 r (.slice a1 r.args.length c1) (.slice a3 n3 c3) u u ws ∧ Rd wr R v len q ∧ ∀ x ∈ ws, x.size ≤ 4000)) (fun i _ => r.args.length - (intOf i).toNat)
    case atStart => exact ⟨0, [], p + 1 + 1, Nat.zero_le _, rfl, rfl, by unfold bnd; omega, ⟨_, HJ5.out, HR5.out, fun x hx => by cases hx⟩⟩
    case round =>
      obtain ⟨k, ws, pw, hk, rfl, hwl, hpw, HX⟩ := hrel
      obtain ⟨u, hJ, hRW, hS4⟩ := HX.out
      have HJ := uh hJ
      have HRW := uh hRW
      have HS4 := uh hS4
      have HKL := uh hwl
      have HQ4 := uh hpw
      have ha3 := HAR3.out.1
      have hpw3 := bnd_le HQ4.out (show k ≤ 3 by omega)
      clear hpw
      obtain ⟨wa, wc, hu⟩ := hJ.row.shape
      subst hu
      clear hJ hRW hS4 HX
      have yb0 := HJ.out.rul.get 1 _ rfl
      have ybl := HJ.out.rul.own.lt
      by_cases hlt : k < r.args.length
      · obtain ⟨Fr', hrr, hfb⟩ := HJ.out.rep
        obtain ⟨F1, v1, F3, v3, hFF, hc, r1, r3⟩ := repSheetRule hrr
        injection hc with _ hc
        injection hc with hc1 _
        subst hc1
        obtain ⟨p1, o1, e1, hpF, hp1, hcell⟩ := args_cell r1 hlt
        subst e1
        obtain ⟨z, hz⟩ : ∃ z, z = r.args.getD k 0 := ⟨_, rfl⟩
        have HP1 : Hid (R < p1 ∧ p1 < wr.heap.size ∧ wr.cell? ⟨p1, o1 + k, none⟩ = some (.int .i64 z)) := ⟨(hfb p1 (by rw [hFF]; simp [hpF])).1, hp1, by rw [hz]; exact hcell⟩
        have HW4 : Hid (ws.length ≤ 3) := by show _ ≤ _; omega
        have hk0 : (0 : Int) ≤ (k : Int) := by omega
        have hkn : (k : Int) < (r.args.length : Int) := by omega
        clear hrr hfb r1 r3 hFF hpF hcell hz hp1
        go_upto_region 10 with fail
        clear yb0 ybl
        refine RY.region_finR R v len pw HRW.out (VLn R (.slice wa ws.length wc) (.slice (some ⟨p1, o1, none⟩) r.args.length c1) B6 B7 p1 o1 k z) (VLn_mono R _ _ _ _ _ _ _ _) (fun u W' => ∃ ws', LJ W0 W' R B0 B6 B7 r (.slice (some ⟨p1, o1, none⟩) r.args.length c1) (.slice a3 n3 c3) (.slice wa ws.length wc) u ws' ∧ ws'.length = ws.length + 1 ∧ (∀ x ∈ ws', x.size ≤ 4000) ∧ ∃ q, q ≤ pw + 11000 ∧ Rd W' R v len q) (fun u W' => ∃ ws', LJ W0 W' R B0 B6 B7 r (.slice (some ⟨p1, o1, none⟩) r.args.length c1) (.slice a3 n3 c3) u u ws' ∧ ws'.length = ws.length + 1 ∧ (∀ x ∈ ws', x.size ≤ 4000) ∧ ∃ q, q ≤ pw + 11000 ∧ Rd W' R v len q) (.pointer (some ⟨B7, 1, none⟩)) 10 12 53 54 (by kernel_rfl) (by kernel_rfl) (by kernel_rfl) (by kernel_rfl) (by kernel_rfl) rfl (by kernel_rfl) _ _ _ rfl rfl rfl rfl rfl rfl (by kernel_rfl) (by kernel_rfl) ?_ ?_ ?_ ?_ ?_
        · intro i' o' ho hin a X pp hX hR hpp hk hd
          have hJ := HJ.out.step hX HRW.out hR
          have yb := hJ.box.get 1 _ rfl
          have yr := hJ.rul.get 1 _ rfl
          have yc : X.cell? ⟨p1, o1 + k, none⟩ = some (.int .i64 z) := (hX.cell HP1.out.1 HP1.out.2.1).trans HP1.out.2.2
          match i', ho with
          | 0, ho =>
            injection ho with ho; subst ho
            have e7 : a.tmps[7]?.getD undef = .pointer (some ⟨B7, 0, none⟩) := (RY.ev_tmp a 7).trans ((hk 7 (by kernel_rfl)).trans rfl)
            exact Or.inl ⟨.pointer (some ⟨B7, 1, none⟩), X, by simp [execOp, go_sem, e7], Below.refl _ _, rfl⟩
          | 1, ho =>
            injection ho with ho; subst ho
            have e43 : a.tmps[43]?.getD undef = _ := (RY.ev_tmp a 43).trans (hd 0 _ 43 rfl rfl ⟨⟨0, .data⟩, by simp, rfl, rfl⟩ (by decide))
            exact Or.inl ⟨.slice wa ws.length wc, X, by simp [execOp, go_sem, e43, yb], Below.refl _ _, rfl⟩
          | 2, ho =>
            injection ho with ho; subst ho
            have e0 : a.tmps[0]?.getD undef = .pointer (some ⟨R, 0, none⟩) := (RY.ev_tmp a 0).trans ((hk 0 (by kernel_rfl)).trans rfl)
            exact Or.inl ⟨.pointer (some ⟨R, 0, none⟩), X, by simp [execOp, go_sem, e0], Below.refl _ _, rfl⟩
          | 3, ho =>
            injection ho with ho; subst ho
            have e6 : a.tmps[6]?.getD undef = .pointer (some ⟨B6, 0, none⟩) := (RY.ev_tmp a 6).trans ((hk 6 (by kernel_rfl)).trans rfl)
            exact Or.inl ⟨.pointer (some ⟨B6, 1, none⟩), X, by simp [execOp, go_sem, e6], Below.refl _ _, rfl⟩
          | 4, ho =>
            injection ho with ho; subst ho
            have e46 : a.tmps[46]?.getD undef = _ := (RY.ev_tmp a 46).trans (hd 3 _ 46 rfl rfl ⟨⟨3, .data⟩, by simp, rfl, rfl⟩ (by decide))
            exact Or.inl ⟨.slice (some ⟨p1, o1, none⟩) r.args.length c1, X, by simp [execOp, go_sem, e46, yr], Below.refl _ _, rfl⟩
          | 5, ho =>
            injection ho with ho; subst ho
            have e8 : a.tmps[8]?.getD undef = .int .i64 (k : Int) := (RY.ev_tmp a 8).trans ((hk 8 (by kernel_rfl)).trans rfl)
            exact Or.inl ⟨.int .i64 (k : Int), X, by simp [execOp, go_sem, e8], Below.refl _ _, rfl⟩
          | 6, ho =>
            injection ho with ho; subst ho
            have e47 : a.tmps[47]?.getD undef = _ := (RY.ev_tmp a 47).trans (hd 4 _ 47 rfl rfl ⟨⟨4, .data⟩, by simp, rfl, rfl⟩ (by decide))
            have e48 : a.tmps[48]?.getD undef = _ := (RY.ev_tmp a 48).trans (hd 5 _ 48 rfl rfl ⟨⟨5, .data⟩, by simp, rfl, rfl⟩ (by decide))
            exact Or.inl ⟨.pointer (some ⟨p1, o1 + k, none⟩), X, by simp [execOp, go_sem, e47, e48, hk0, hkn], Below.refl _ _, rfl⟩
          | 7, ho =>
            injection ho with ho; subst ho
            have e49 : a.tmps[49]?.getD undef = _ := (RY.ev_tmp a 49).trans (hd 6 _ 49 rfl rfl ⟨⟨6, .data⟩, by simp, rfl, rfl⟩ (by decide))
            exact Or.inl ⟨.int .i64 z, X, by simp [execOp, go_sem, e49, yc], Below.refl _ _, rfl⟩
          | 8, ho =>
            injection ho with ho; subst ho
            have e45 : a.tmps[45]?.getD undef = _ := (RY.ev_tmp a 45).trans (hd 2 _ 45 rfl rfl ⟨⟨2, .data⟩, by simp, rfl, rfl⟩ (by decide))
            have e50 : a.tmps[50]?.getD undef = _ := (RY.ev_tmp a 50).trans (hd 7 _ 50 rfl rfl ⟨⟨7, .data⟩, by simp, rfl, rfl⟩ (by decide))
            refine Or.inr ⟨24, #[.pointer (some ⟨R, 0, none⟩), .int .i64 z], by simp [go_sem, e45, e50], (drawWordOf R v len pp z X hR (by omega)).mono ?_⟩
            rintro e W' ⟨⟨s, rfl, hs⟩, hF, q, hq, hRq⟩
            exact ⟨_, rfl, hF, ⟨q, hq, hRq⟩, s, rfl, hs⟩
          | 9, ho =>
            injection ho with ho; subst ho
            obtain ⟨s, e51, hs⟩ := hd 8 _ 51 rfl rfl ⟨⟨8, .data⟩, by simp, rfl, rfl⟩ (by decide)
            have f51 := (RY.ev_tmp a 51).trans e51
            exact Or.inl ⟨.slice (some ⟨X.heap.size, 0, none⟩) 1 1, X.alloc (.cells #[.string s] 9), by simp [execOp, go_sem, f51], blw_alloc (Below.refl _ _) _, X.heap.size, s, rfl, hR.own.lt, by simp, (World.cell?_alloc_at _ _ _ _ rfl).trans rfl, hs⟩
          | n + 10, ho => omega
        · intro a X pp hX hR hpp hk hd
          have hJ := HJ.out.step hX HRW.out hR
          have e44 := hd 1 _ 44 rfl rfl ⟨⟨1, .data⟩, by simp, rfl, rfl⟩ (by decide)
          obtain ⟨B, s, e52, h1, h2, hc, hs⟩ := hd 9 _ 52 rfl rfl ⟨⟨9, .data⟩, by simp, rfl, rfl⟩ (by decide)
          obtain ⟨g, cap, X', hrun, hrow, hgr⟩ := tx_run hJ.row 27 B 1 1 [s] rfl (fun j y hy => by match j, hy with | 0, hy => (injection hy with hy; subst hy; exact hc)) (by decide) (by have := HW4.out; omega) (by have := hJ.box.own.lt; omega)
          refine ⟨_, X', uexec_append (.tmp 44) (.tmp 52) 27 rfl e44 e52 hrun, ws ++ [s], hJ.app hgr hrow, by simp, ?_, pp, by omega, hR.grown hgr (fun b hb => by have := (owns_blk_lt hJ.row hb).1; have := hJ.ord; omega)⟩
          intro x hx
          rcases List.mem_append.1 hx with q | q
          · exact HS4.out x q
          · simp at q; rw [q]; exact hs
        · intro a X hk
          have e7 : a.tmps[7]?.getD undef = .pointer (some ⟨B7, 0, none⟩) := (RY.ev_tmp a 7).trans ((hk 7 (by kernel_rfl)).trans rfl)
          simp [execOp, go_sem, e7]
        · intro a X hK hp
          obtain ⟨ws', hJ, hl, hs, q, hq, hR⟩ := hK
          obtain ⟨ua, uc, hu⟩ := hJ.row.shape
          have t53 := (RY.ev_tmp a 53).trans hu
          have t54 := (RY.ev_tmp a 54).trans hp
          have zb := hJ.box.get 1 _ rfl
          have zf := hJ.box.own.frozen 1
          refine ⟨X.setCell ⟨B7, 1, none⟩ (a.eval (.tmp 53)), by rw [hu]; simp [execOp, go_sem, t53, t54, zb, zf], ws', hJ.sto, hl, hs, q, hq, hR.mks (Marks.sc (S := fun b => b = B7) X rfl 1 _) (fun b e => by have := hJ.ord; omega)⟩
        · rintro vs X hK e54
          simp only [RY.putAll, Act.put, List.setIfInBounds_toArray, List.set_cons_zero, List.set_cons_succ]
          generalize vs 43 = s43
          generalize vs 44 = s44
          generalize vs 45 = s45
          generalize vs 46 = s46
          generalize vs 47 = s47
          generalize vs 48 = s48
          generalize vs 49 = s49
          generalize vs 50 = s50
          generalize vs 51 = s51
          generalize vs 52 = s52
          generalize vs 53 = s53 at hK
          rw [e54]
          obtain ⟨ws', hJ, hl, hs, q, hq, hR⟩ := hK
          have HN := uh (And.intro hJ (And.intro hl (And.intro hs (And.intro hq hR))))
          clear hJ hl hs hq hR e54
          go_wp2
          go_roundw
          case rel => exact ⟨k + 1, ws', q, by omega, by go_num, by have := HN.out.2.1; have := HKL.out; omega, bnd_succ HQ4.out HN.out.2.2.2.1, ⟨_, HN.out.1, HN.out.2.2.2.2, HN.out.2.2.1⟩⟩
          case measure => simp [intOf]; omega
      obtain rfl : k = r.args.length := by omega
      obtain ⟨q, hq⟩ : ∃ q, q = pw := ⟨_, rfl⟩
      rw [← hq] at HRW hpw3
      clear hq
      have hxa := HJ.out.box.at_
      have hxl := HJ.out.box.own.lt
      have hol := HJ.out.res.own.lt
      have hth : wr.there B0 0 (#[.string r.key, .slice wa ws.length wc] : Array Value).size := uthere HJ.out.res.own _ _ (by simp)
      obtain ⟨we, hwe⟩ : ∃ we, we = wr.setCells B0 0 [.string r.key, .slice wa ws.length wc] := ⟨_, rfl⟩
      have hrt : we.rangeAt B0 0 [.string r.key, .slice wa ws.length wc] := by rw [hwe]; exact World.rangeAt_setCells_same _ _ _ _ hth
      have hmk : Marks (fun b => b = B0) wr we := by rw [hwe]; exact mks_scs (S := fun b => b = B0) rfl _ _ _
      have hoo := HJ.out.ord
      have HEND : Hid (Fr R W0 we ∧ Rd we R v len q ∧ TxR we (R + 1) (.slice wa ws.length wc) ws) := ⟨HJ.out.fr.mks hmk (fun b e => by omega) hoo.1, HRW.out.mks hmk (fun b e => by omega), TxR.lower (lo := B7 + 1) (owns_mks HJ.out.row hmk (fun b hb e => by omega)) (by omega)⟩
      clear hmk hoo
      go_wp2_with (first | (refine wpList_load_mid rfl 48 _ rfl B7 0 rfl [.string r.key, .slice wa ws.length wc] _ hxa Try.underlying48 rfl (by kernel_rfl) ?_) | (refine wpList_store_mid rfl 48 _ _ rfl B0 0 #[.string r.key, .slice wa ws.length wc] rfl rfl hth (by kernel_rfl) (by simp [Value.oneCell']) ?_))
      first | rw [← hwe] | (simp only [List.toList_toArray]; rw [← hwe])
      try simp only [Act.put]
      refine bodyPost_ret (v := .agg #[.string r.key, .slice wa ws.length wc]) (by simp [results, Try.results18, asAddr, run_loadVar_mid (P := Try.prog) _ _ _ 48 [.string r.key, .slice wa ws.length wc] _ hrt Try.underlying48 rfl (by kernel_rfl)]) rfl ?_
      exact ⟨⟨r.key, _, ws, rfl, HEND.out.2.2, by omega, HS4.out⟩, HEND.out.1, q, by omega, HEND.out.2.1⟩
  subst m0
  obtain ⟨Fr', hrr, hfb⟩ := HJ5.out.rep
  obtain ⟨F1, v1, F3, v3, hFF, hc, r1, r3⟩ := repSheetRule hrr
  injection hc with _ hc
  injection hc with hc1 hc
  injection hc with _ hc
  injection hc with hc3 _
  subst hc1; subst hc3
  obtain ⟨ua, uc, hu⟩ := r3.raw.len0
  injection hu with e1 e2 e3
  subst e1; subst e2; subst e3
  have hd1 := HAR3.out.2.2.1 hmany
  have hd3 := HAR3.out.2.1
  rcases r3.slice with ⟨_, e0, _⟩ | ⟨p3, o3, c3', u3, m3, G3, hv3, _, _, ho3, _, _, vs3, hr3, hR3⟩
  · omega
  injection hv3 with e1 _ e3
  subst e1; subst e3
  have HNEWS : Hid (∀ j y, (txV r.dflt)[j]? = some y → W5.cell? ((⟨p3, o3, none⟩ : Addr).add j) = some y) := by
    intro j y hy
    have hev := rep_tx_vals hR3
    rw [hev] at hr3
    have := hr3 j y hy
    rw [Addr.add_mid]
    exact this
  have yb := HJ5.out.box.get 1 _ rfl
  have yr := HJ5.out.rul.get 3 _ rfl
  have ybl := HJ5.out.box.own.lt
  have yrl := HJ5.out.rul.own.lt
  clear hrr hfb r1 r3 hFF hR3 hr3 ho3
  go_upto_region 6 with (refine tx_push_at rfl _ _ rfl (B7 + 1) (.slice none 0 0) [] rfl HJ5.out.row p3 o3 r.dflt.length c3 r.dflt rfl rfl HNEWS.out (by omega) (by simp; omega) (by omega) ?_; intro g cap W6 q1 q2; have q1' : TxR W6 (B7 + 1) (.slice (some ⟨g, 0, none⟩) r.dflt.length cap) r.dflt := (by simpa using q1); have hJ6 := HJ5.out.app q2 q1'; have zb := hJ6.box.get 1 _ rfl; have zf := hJ6.box.own.frozen 1; have zl := hJ6.box.own.lt; have HR6 := uh (HR5.out.grown q2 (fun b e => by cases e)))
  obtain ⟨W7, hW7⟩ : ∃ W7, W7 = W6.setCell ⟨B7, 1, none⟩ (.slice (some ⟨g, 0, none⟩) r.dflt.length cap) := ⟨_, rfl⟩
  have HJ7 : Hid (LJ W0 W7 R B0 B6 B7 r (.slice a1 r.args.length c1) (.slice (some ⟨p3, o3, none⟩) r.dflt.length c3) (.slice (some ⟨g, 0, none⟩) r.dflt.length cap) (.slice (some ⟨g, 0, none⟩) r.dflt.length cap) r.dflt) := by rw [hW7]; exact hJ6.sto
  have HR7 : Hid (Rd W7 R v len (p + 1 + 1)) := by rw [hW7]; exact HR6.out.mks (Marks.sc (S := fun b => b = B7) W6 rfl 1 _) (fun b e => by have := hJ6.ord; omega)
  have HS4 := uh HAR3.out.2.2.2
  rw [← hW7]
  clear hW7 hJ6 q1 q1' q2 zb zf zl HR6 yb yr ybl yrl HJ5 HR5 HNEWS
  obtain ⟨ws, hws⟩ : ∃ ws, ws = r.dflt := ⟨_, rfl⟩
  obtain ⟨wa, hwa⟩ : ∃ wa : Option Addr, wa = some ⟨g, 0, none⟩ := ⟨_, rfl⟩
  obtain ⟨wc, hwc⟩ : ∃ wc, wc = cap := ⟨_, rfl⟩
  obtain ⟨q, hq⟩ : ∃ q, q = p + 1 + 1 := ⟨_, rfl⟩
  rw [← hws, ← hwa, ← hwc] at HJ7
  rw [← hq] at HR7
  rw [← hws] at HS4 hd3
  have hpw3 : q ≤ p + 10 := by omega
  clear hws hwa hwc hq
  have hxa := HJ7.out.box.at_
  have hxl := HJ7.out.box.own.lt
  have hol := HJ7.out.res.own.lt
  have hth : W7.there B0 0 (#[.string r.key, .slice wa ws.length wc] : Array Value).size := uthere HJ7.out.res.own _ _ (by simp)
  obtain ⟨we, hwe⟩ : ∃ we, we = W7.setCells B0 0 [.string r.key, .slice wa ws.length wc] := ⟨_, rfl⟩
  have hrt : we.rangeAt B0 0 [.string r.key, .slice wa ws.length wc] := by rw [hwe]; exact World.rangeAt_setCells_same _ _ _ _ hth
  have hmk : Marks (fun b => b = B0) W7 we := by rw [hwe]; exact mks_scs (S := fun b => b = B0) rfl _ _ _
  have hoo := HJ7.out.ord
  have HEND : Hid (Fr R W0 we ∧ Rd we R v len q ∧ TxR we (R + 1) (.slice wa ws.length wc) ws) := ⟨HJ7.out.fr.mks hmk (fun b e => by omega) hoo.1, HR7.out.mks hmk (fun b e => by omega), TxR.lower (lo := B7 + 1) (owns_mks HJ7.out.row hmk (fun b hb e => by omega)) (by omega)⟩
  clear hmk hoo
  go_wp2_with (first | (refine wpList_load_mid rfl 48 _ rfl B7 0 rfl [.string r.key, .slice wa ws.length wc] _ hxa Try.underlying48 rfl (by kernel_rfl) ?_) | (refine wpList_store_mid rfl 48 _ _ rfl B0 0 #[.string r.key, .slice wa ws.length wc] rfl rfl hth (by kernel_rfl) (by simp [Value.oneCell']) ?_))
  first | rw [← hwe] | (simp only [List.toList_toArray]; rw [← hwe])
  try simp only [Act.put]
  refine bodyPost_ret (v := .agg #[.string r.key, .slice wa ws.length wc]) (by simp [results, Try.results18, asAddr, run_loadVar_mid (P := Try.prog) _ _ _ 48 [.string r.key, .slice wa ws.length wc] _ hrt Try.underlying48 rfl (by kernel_rfl)]) rfl ?_
  exact ⟨⟨r.key, _, ws, rfl, HEND.out.2.2, by omega, HS4.out⟩, HEND.out.1, q, by omega, HEND.out.2.1⟩

end Go.Proofs.Ytfhobegepiijhaa
