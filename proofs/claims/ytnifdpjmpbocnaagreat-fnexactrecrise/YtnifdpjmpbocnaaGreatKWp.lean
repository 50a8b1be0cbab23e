/-
  Wishes: plain.
-/
import Derived.Test.YtnifdpjmpbocnaaGreatKSh
import Derived.Test.YtnifdpjmpbocnaaGreatRvP
import Derived.Test.YtnifdpjmpbocnaaGreatRvH
import Derived.Test.YtnifdpjmpbocnaaGreatUL
import Derived.Test.YtnifdpjmpbocnaaGreatUC
namespace Go.Proofs.YtnifdpjmpbocnaaGreat
open Go.RowKit Go.Deep

def eRs (m : Rs) : List Dt := [.i m.bal, .s m.txt]
def eTx (t : Tx) : List Dt := [.s t]
def eNu (n : Nu) : List Dt := [.i n]
def eRd (d : Rd) : List Dt := [.i d.prom, .i d.known, .row d.slots.length (d.slots.flatMap eRs)]
def eRm (m : Rm) : List Dt := [.i m.kind, .i m.frm, .i m.to_, .i m.bal, .i m.ix, .i m.known, .s m.txt, .row m.slots.length (m.slots.flatMap eRs)]
def eRa (a : Ra) : List Dt := [.i a.ix, .row a.frs.length (a.frs.flatMap eNu)]
def eRr (K : Rr) : List Dt := .i K.num :: .i K.of_ :: .b K.up :: (eRd K.safe ++ ((eRd K.disk ++ (.row K.held.length (K.held.flatMap eRm) :: .row K.wish.length (K.wish.flatMap eTx) :: .b K.lead :: .b K.try_ :: .i K.bal :: .row K.yes.length (K.yes.flatMap eNu) :: .row K.best.length (K.best.flatMap eRs) :: .row K.acks.length (K.acks.flatMap eRa) :: .i K.heard :: []))))

theorem dRs (e : List Dt) (h : Typ shRecSlot e) : ∃ m, e = eRs m := by obtain ⟨a, b, rfl⟩ := typRecSlot h; exact ⟨⟨a, b⟩, rfl⟩
theorem dTx (e : List Dt) (h : Typ [.s] e) : ∃ m, e = eTx m := by obtain ⟨a, rfl⟩ := typT1 h; exact ⟨a, rfl⟩
theorem dNu (e : List Dt) (h : Typ [.i] e) : ∃ m, e = eNu m := by obtain ⟨a, rfl⟩ := typN1 h; exact ⟨a, rfl⟩
theorem dRd (e : List Dt) (h : Typ shRecDisk e) : ∃ m, e = eRd m := by
  obtain ⟨a, b, n, es, rfl, t⟩ := typRecDisk h
  obtain ⟨ms, rfl, rfl⟩ := typ_rows eRs dRs t
  exact ⟨⟨a, b, ms⟩, rfl⟩
theorem dRm (e : List Dt) (h : Typ shRecMessage e) : ∃ m, e = eRm m := by
  obtain ⟨a0, a1, a2, a3, a4, a5, a6, n, es, rfl, t⟩ := typRecMessage h
  obtain ⟨ms, rfl, rfl⟩ := typ_rows eRs dRs t
  exact ⟨⟨a0, a1, a2, a3, a4, a5, a6, ms⟩, rfl⟩
theorem dRa (e : List Dt) (h : Typ shRecAck e) : ∃ m, e = eRa m := by
  obtain ⟨a, n, es, rfl, t⟩ := typRecAck h
  obtain ⟨ms, rfl, rfl⟩ := typ_rows eNu dNu t
  exact ⟨⟨a, ms⟩, rfl⟩
theorem dRr (e : List Dt) (h : Typ shRecorder e) : ∃ K, e = eRr K := by
  obtain ⟨a0, a1, a2, d3, d4, n5, e5, n6, e6, a7, a8, a9, n10, e10, n11, e11, n12, e12, a13, rfl, t3, t4, t5, t6, t10, t11, t12⟩ := segTypRecorder h
  obtain ⟨s, rfl⟩ := dRd _ t3
  obtain ⟨d, rfl⟩ := dRd _ t4
  obtain ⟨m5, rfl, rfl⟩ := typ_rows eRm dRm t5
  obtain ⟨m6, rfl, rfl⟩ := typ_rows eTx dTx t6
  obtain ⟨m10, rfl, rfl⟩ := typ_rows eNu dNu t10
  obtain ⟨m11, rfl, rfl⟩ := typ_rows eRs dRs t11
  obtain ⟨m12, rfl, rfl⟩ := typ_rows eRa dRa t12
  exact ⟨⟨a0, a1, a2, s, d, m5, m6, a7, a8, a9, m10, m11, m12, a13⟩, rfl⟩

theorem getD_mem {α : Type} {l : List α} {i : Nat} {d : α} (h : i < l.length) : l.getD i d ∈ l := by
  have : l.getD i d = l[i] := by simp [h]
  rw [this]; exact List.getElem_mem h

theorem vRs {W : World} {l : List Rs} {v : Value} {t : TypeId} (h : Raw W [.row t shRecSlot] [.row l.length (l.flatMap eRs)] [v]) (hw : wtL (l.flatMap eRs) ≤ 1048576) : ∃ a c, v = .slice a l.length c ∧ l.length ≤ c ∧ RssV W a l := by
  obtain ⟨a, c, rfl, hc, hm, hall⟩ := raw_at Rs.none eRs (fun _ => rfl) h
  refine ⟨a, c, rfl, hc, hm, fun i hi => ?_⟩
  obtain ⟨b, off, ve, rfl, hb, hg, hE⟩ := hall i hi
  obtain rfl := rawRecSlot hE
  refine ⟨b, off, rfl, hb, ⟨hg 0 _ rfl, hg 1 _ rfl, ?_⟩⟩
  have := wt_mem eRs l _ (getD_mem (d := Rs.none) hi)
  simp only [eRs, wtL] at this
  show ByteArray.size _ ≤ 9223372036854775807
  omega
theorem vTx {W : World} {l : List Tx} {v : Value} {t : TypeId} (h : Raw W [.row t [.s]] [.row l.length (l.flatMap eTx)] [v]) (hw : l.length + wtL (l.flatMap eTx) ≤ 1048576) : ∃ a c, v = .slice a l.length c ∧ l.length ≤ c ∧ TxsV W a l := by
  obtain ⟨a, c, rfl, hc, hm, hall⟩ := raw_at ByteArray.empty eTx (fun _ => rfl) h
  refine ⟨a, c, rfl, hc, by omega, fun i hi => ?_⟩
  obtain ⟨b, off, ve, rfl, hb, hg, hE⟩ := hall i hi
  obtain rfl := rawT1 hE
  have := wt_mem eTx l _ (getD_mem (d := ByteArray.empty) hi)
  simp only [eTx, wtL] at this
  refine ⟨b, off, rfl, hb, ?_, by show _ ≤ 9223372036854775807; omega⟩
  have := hg 0 _ rfl
  simpa using this
theorem vNu {W : World} {l : List Nu} {v : Value} {t : TypeId} (h : Raw W [.row t [.i]] [.row l.length (l.flatMap eNu)] [v]) (hw : l.length ≤ 1048576) : ∃ a c, v = .slice a l.length c ∧ l.length ≤ c ∧ NusV W a l := by
  obtain ⟨a, c, rfl, hc, hm, hall⟩ := raw_at 0 eNu (fun _ => rfl) h
  refine ⟨a, c, rfl, hc, hw, fun i hi => ?_⟩
  obtain ⟨b, off, ve, rfl, hb, hg, hE⟩ := hall i hi
  obtain rfl := rawN1 hE
  refine ⟨b, off, rfl, hb, ?_⟩
  have := hg 0 _ rfl
  simpa using this
theorem vRm {W : World} {l : List Rm} {v : Value} {t : TypeId} (h : Raw W [.row t shRecMessage] [.row l.length (l.flatMap eRm)] [v]) (hw : l.length + wtL (l.flatMap eRm) ≤ 1048576) : ∃ a c, v = .slice a l.length c ∧ l.length ≤ c ∧ RmsV W a l := by
  obtain ⟨a, c, rfl, hc, hm, hall⟩ := raw_at Rm.none eRm (fun _ => rfl) h
  refine ⟨a, c, rfl, hc, by omega, fun i hi => ?_⟩
  obtain ⟨b, off, ve, rfl, hb, hg, hE⟩ := hall i hi
  obtain ⟨v7, rfl, r7⟩ := rawRecMessage hE
  have := wt_mem eRm l _ (getD_mem (d := Rm.none) hi)
  simp only [eRm, wtL] at this
  obtain ⟨a0, c0, rfl, _, hv⟩ := vRs r7 (by omega)
  exact ⟨b, off, a0, c0, rfl, hb, ⟨hg 0 _ rfl, hg 1 _ rfl, hg 2 _ rfl, hg 3 _ rfl, hg 4 _ rfl, hg 5 _ rfl, hg 6 _ rfl, hg 7 _ rfl⟩, hv⟩
theorem vRa {W : World} {l : List Ra} {v : Value} {t : TypeId} (h : Raw W [.row t shRecAck] [.row l.length (l.flatMap eRa)] [v]) (hw : l.length + wtL (l.flatMap eRa) ≤ 1048576) : ∃ a c, v = .slice a l.length c ∧ l.length ≤ c ∧ RasV W a l := by
  obtain ⟨a, c, rfl, hc, hm, hall⟩ := raw_at Ra.none eRa (fun _ => rfl) h
  refine ⟨a, c, rfl, hc, by omega, fun i hi => ?_⟩
  obtain ⟨b, off, ve, rfl, hb, hg, hE⟩ := hall i hi
  obtain ⟨v1, rfl, r1⟩ := rawRecAck hE
  have := wt_mem eRa l _ (getD_mem (d := Ra.none) hi)
  simp only [eRa, wtL] at this
  obtain ⟨a0, c0, rfl, _, hv⟩ := vNu r1 (by omega)
  exact ⟨b, off, a0, c0, rfl, hb, hg 0 _ rfl, hg 1 _ rfl, hv⟩
/-- A recorder as the walks of RecValid ask it. -/
theorem vRr {W : World} {K : Rr} {cs : List Value} (h : Raw W shRecorder (eRr K) cs) (hw : wtL (eRr K) ≤ 1048576) : ∃ a0 a1 a2 a3 a4 a5 a6 c0 c1 c2 c3 c4 c5 c6, cs = RrC K a0 a1 a2 a3 a4 a5 a6 c0 c1 c2 c3 c4 c5 c6 ∧ RrV W a0 a1 a2 a3 a4 a5 a6 K ∧ K.safe.slots.length ≤ c0 ∧ K.disk.slots.length ≤ c1 ∧ K.wish.length ≤ c3 := by
  simp only [eRr, eRd, wtL, wtL_app] at hw
  obtain ⟨x0, rfl, h1⟩ := h.c_i
  obtain ⟨x1, rfl, h2⟩ := h1.c_i
  obtain ⟨x2, rfl, h3⟩ := h2.c_b
  obtain ⟨x3, rfl, h4⟩ := h3.c_i
  obtain ⟨x4, rfl, h5⟩ := h4.c_i
  obtain ⟨v5, x5, rfl, r5, h6⟩ := h5.c_r
  obtain ⟨x6, rfl, h7⟩ := h6.c_i
  obtain ⟨x7, rfl, h8⟩ := h7.c_i
  obtain ⟨v8, x8, rfl, r8, h9⟩ := h8.c_r
  obtain ⟨v9, x9, rfl, r9, h10⟩ := h9.c_r
  obtain ⟨v10, x10, rfl, r10, h11⟩ := h10.c_r
  obtain ⟨x11, rfl, h12⟩ := h11.c_b
  obtain ⟨x12, rfl, h13⟩ := h12.c_b
  obtain ⟨x13, rfl, h14⟩ := h13.c_i
  obtain ⟨v14, x14, rfl, r14, h15⟩ := h14.c_r
  obtain ⟨v15, x15, rfl, r15, h16⟩ := h15.c_r
  obtain ⟨v16, x16, rfl, r16, h17⟩ := h16.c_r
  obtain ⟨x17, rfl, h18⟩ := h17.c_i
  obtain rfl := h18.c_n
  obtain ⟨a0, c0, rfl, k0, q0⟩ := vRs r5 (by omega)
  obtain ⟨a1, c1, rfl, k1, q1⟩ := vRs r8 (by omega)
  obtain ⟨a2, c2, rfl, k2, q2⟩ := vRm r9 (by omega)
  obtain ⟨a3, c3, rfl, k3, q3⟩ := vTx r10 (by omega)
  obtain ⟨a4, c4, rfl, k4, q4⟩ := vNu r14 (by omega)
  obtain ⟨a5, c5, rfl, k5, q5⟩ := vRs r15 (by omega)
  obtain ⟨a6, c6, rfl, k6, q6⟩ := vRa r16 (by omega)
  exact ⟨a0, a1, a2, a3, a4, a5, a6, c0, c1, c2, c3, c4, c5, c6, rfl, ⟨q0, q1, q2, q3, q4, q5, q6, by omega⟩, k0, k1, k3⟩
theorem shB_rec : shB shRecorder = true := by simp [shB]
theorem cnt_rr {ds : List Dt} (t : Typ shRecorder ds) (hw : wtL ds ≤ 1048576) : cntT ds ≤ 1000000000 := by
  have h1 := cntT_le ds
  have h2 : cntL ds ≤ 18 + 32 * wtL ds := cnt_wt t shB_rec
  omega
end Go.Proofs.YtnifdpjmpbocnaaGreat

namespace Go.Proofs.YtnifdpjmpbocnaaGreat
open Go.RowKit Go.Deep

def knownTx (d : Rd) : List Tx := (d.slots.take d.known.toNat).map (·.txt)
def bookOf (K : Rr) : List Tx := if recOk K then knownTx K.disk else []
theorem disk_facts {d : Rd} (h : diskOk d = true) : ∃ kn : Nat, d.known = (kn : Int) ∧ kn ≤ d.slots.length ∧ d.slots.length ≤ 120 := by
  simp only [diskOk, slotsOk, inB, Bool.and_eq_true, decide_eq_true_eq] at h
  obtain ⟨⟨⟨_, h1, _⟩, h2, h3⟩, _⟩ := h
  exact ⟨d.known.toNat, by omega, by omega, h1⟩
theorem rec_disk {K : Rr} (h : recOk K = true) : diskOk K.safe = true ∧ diskOk K.disk = true := by
  simp only [recOk, Bool.and_eq_true] at h
  exact ⟨h.1.1.1.1.1.1.1.1.1.1.1.2, h.1.1.1.1.1.1.1.1.1.1.2⟩
theorem txs_snoc (l : List Rs) (k : Nat) (h : k < l.length) : ((l.take (k + 1)).map (·.txt)) = ((l.take k).map (·.txt)) ++ [(l.getD k Rs.none).txt] := by
  have : l.getD k Rs.none = l[k] := by simp [h]
  rw [this, List.take_succ_eq_append_getElem h, List.map_append]; rfl
theorem fm_snoc {α : Type} (f : α → List Dt) (l : List α) (x : α) : (l ++ [x]).flatMap f = l.flatMap f ++ f x := by simp
end Go.Proofs.YtnifdpjmpbocnaaGreat

namespace Go.Proofs.YtnifdpjmpbocnaaGreat
open Go.RowKit Go.Deep

def hasT (l : List Tx) (x : Tx) : Bool := !allTo (fun i => !same (l.getD i ByteArray.empty) x) l.length
def hasSl (l : List Rs) (kn : Nat) (x : Tx) : Bool := !allTo (fun i => !(decide (0 < (l.getD i Rs.none).bal) && same (l.getD i Rs.none).txt x)) kn
def wishB (K : Rr) (x : Tx) : Bool := decide (1 ≤ x.size) && decide (x.size ≤ 160) && decide (K.wish.length < 20) && !hasT (knownTx K.disk) x && !hasT K.wish x
def wishK (K : Rr) (x : Tx) : Rr := if wishB K x then { K with wish := K.wish ++ [x] } else K
def Rr.zero : Rr := ⟨0, 0, false, ⟨0, 0, []⟩, ⟨0, 0, []⟩, [], [], false, false, 0, [], [], [], 0⟩
def ansW (K : Rr) (x : Tx) : Rr := if recOk K then (if K.up then wishK K x else K) else Rr.zero
theorem known_bal {d : Rd} (h : diskOk d = true) {kn : Nat} (hk : d.known = (kn : Int)) (hn : kn ≤ d.slots.length) (i : Nat) (hi : i < kn) : 0 < (d.slots.getD i Rs.none).bal := by
  simp only [diskOk, slotsOk, Bool.and_eq_true, allTo_iff, decide_eq_true_eq] at h
  obtain ⟨⟨⟨_, _, h2⟩, _⟩, h4⟩ := h
  have h5 := h2 i (by omega)
  have h6 := h4 i (by omega)
  simp only [slotOk, inB, Bool.and_eq_true, decide_eq_true_eq] at h5
  simp only [dslot, hk, Bool.and_eq_true, Bool.not_eq_true', Bool.and_eq_false_iff, decide_eq_false_iff_not, decide_eq_true_eq] at h6
  omega
theorem has_eq {d : Rd} (h : diskOk d = true) {kn : Nat} (hk : d.known = (kn : Int)) (hn : kn ≤ d.slots.length) (x : Tx) : hasSl d.slots kn x = hasT (knownTx d) x := by
  unfold hasSl hasT
  have hl : (knownTx d).length = kn := by rw [knownTx, hk, List.length_map, List.length_take]; show min kn _ = kn; omega
  rw [hl]
  congr 1
  refine allTo_congr fun i hi => ?_
  have hb := known_bal h hk hn i hi
  have e : (knownTx d).getD i ByteArray.empty = (d.slots.getD i Rs.none).txt := by
    have h1 : i < d.slots.length := by omega
    rw [knownTx, hk]
    show ((d.slots.take kn).map (·.txt)).getD i ByteArray.empty = _
    simp [hi, h1]
  rw [e, show decide (0 < (d.slots.getD i Rs.none).bal) = true from decide_eq_true hb, Bool.true_and]
theorem wishes_len {K : Rr} (h : recOk K = true) : K.wish.length ≤ 20 := by
  simp only [recOk, wishesOk, Bool.and_eq_true, decide_eq_true_eq] at h
  exact h.1.1.1.1.1.1.1.1.2.1
theorem WBox.grown {W W' : World} {row : Option Nat} {p : Nat} {u : TypeId} {cs : List Value} (h : WBox W p u cs) (hg : W.grownBy W' row) (hn : row ≠ some p) : WBox W' p u cs := by
  have hb : W'.heap[p]? = W.heap[p]? := hg.block p h.own.lt (fun e => hn e.symm)
  refine ⟨?_, rA_same h.at_ fun j _ => World.cell?_of_block (a := ⟨p, 0 + j, none⟩) hb⟩
  obtain ⟨c, h1, h2⟩ := h.own
  exact ⟨c, hb.trans h1, h2⟩
theorem OwnBlk.grown {W W' : World} {row : Option Nat} {p : Nat} {u : TypeId} {m : Nat} (h : OwnBlk W p u m) (hg : W.grownBy W' row) (hn : row ≠ some p) : OwnBlk W' p u m := by
  have hl := h.lt
  obtain ⟨c, h1, h2⟩ := h
  exact ⟨c, (hg.block p hl (fun e => hn e.symm)).trans h1, h2⟩
theorem zero_rep (W : World) (tt : Bool) (ht : tt = false) : Rep W tt shRecorder [] (eRr Rr.zero) [.int .i64 0, .int .i64 0, .bool false, .int .i64 0, .int .i64 0, .slice none 0 0, .int .i64 0, .int .i64 0, .slice none 0 0, .slice none 0 0, .slice none 0 0, .bool false, .bool false, .int .i64 0, .slice none 0 0, .slice none 0 0, .slice none 0 0, .int .i64 0] :=
  .i 0 (.i 0 (.b false (.i 0 (.i 0 (.emp _ _ none ht (.i 0 (.i 0 (.emp _ _ none ht (.emp _ _ none ht (.emp _ _ none ht (.b false (.b false (.i 0 (.emp _ _ none ht (.emp _ _ none ht (.emp _ _ none ht (.i 0 .nil)))))))))))))))))
theorem wish_wt (K : Rr) (x : Tx) : wtL (eRr (wishK K x)) ≤ wtL (eRr K) + 1 + x.size := by
  unfold wishK
  split
  · simp only [eRr, eRd, wtL, wtL_app, List.flatMap_append, List.length_append, List.length_cons, List.length_nil, List.flatMap_cons, List.flatMap_nil, eTx]
    omega
  · omega
theorem wish_up (K : Rr) (x : Tx) (h : wishB K x = true) : x.size ≤ 160 := by
  simp only [wishB, Bool.and_eq_true, decide_eq_true_eq] at h; exact h.1.1.1.2
end Go.Proofs.YtnifdpjmpbocnaaGreat
