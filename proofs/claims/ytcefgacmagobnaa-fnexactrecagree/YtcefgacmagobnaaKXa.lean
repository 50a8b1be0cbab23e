/-
  Worlds of recorders: plain; lists of any room.
-/
import Derived.Test.YtcefgacmagobnaaKV
import Derived.Test.YtcefgacmagobnaaKShw
namespace Go.Proofs.Ytcefgacmagobnaa
open Go.RowKit Go.Deep


structure Rf where
  ix : Int
  txt : ByteArray
def Rf.none : Rf := ⟨0, ByteArray.empty⟩
structure Rw where
  recs : List Rr
  fl : List Rm
  fx : List Rf
def Rr.nil : Rr := ⟨0, 0, false, ⟨0, 0, []⟩, ⟨0, 0, []⟩, [], [], false, false, 0, [], [], [], 0⟩

def recAt (K : Rw) (i : Nat) : Bool := recOk (K.recs.getD i Rr.nil) && ((K.recs.getD i Rr.nil).num == (i : Int) + 1) && ((K.recs.getD i Rr.nil).of_ == (K.recs.length : Int))
def fixAt (l : List Rf) (i : Nat) : Bool := inB (l.getD i Rf.none).ix 1 120 && decide ((l.getD i Rf.none).txt.size ≤ 160) && (decide (i = 0) || decide ((l.getD (i - 1) Rf.none).ix < (l.getD i Rf.none).ix))
def fixesOk (l : List Rf) : Bool := allTo (fixAt l) l.length
def flOk (K : Rw) : Bool := allTo (fun i => msgOk (K.fl.getD i Rm.none) (K.recs.length : Int)) K.fl.length
def worldOk (K : Rw) : Bool := inB (K.recs.length : Int) 1 5 && decide (K.fl.length ≤ 600) && allTo (recAt K) K.recs.length && flOk K && fixesOk K.fx

def eRf (f : Rf) : List Dt := [.i f.ix, .s f.txt]
def eRw (K : Rw) : List Dt := [.row K.recs.length (K.recs.flatMap eRr), .row K.fl.length (K.fl.flatMap eRm), .row K.fx.length (K.fx.flatMap eRf)]
theorem dRf (e : List Dt) (h : Typ shRecFix e) : ∃ m, e = eRf m := by obtain ⟨a, b, rfl⟩ := typRecFix h; exact ⟨⟨a, b⟩, rfl⟩
theorem dRw (e : List Dt) (h : Typ shRecWorld e) : ∃ K, e = eRw K := by
  obtain ⟨n0, e0, n1, e1, n2, e2, rfl, t0, t1, t2⟩ := typRecWorld h
  obtain ⟨m0, rfl, rfl⟩ := typ_rows eRr dRr t0
  obtain ⟨m1, rfl, rfl⟩ := typ_rows eRm dRm t1
  obtain ⟨m2, rfl, rfl⟩ := typ_rows eRf dRf t2
  exact ⟨⟨m0, m1, m2⟩, rfl⟩

structure RfsV (w : World) (a : Option Addr) (l : List Rf) : Prop where
  len : l.length ≤ 1048576
  at_ : ∀ i, i < l.length → ∃ b off, a = some ⟨b, off, none⟩ ∧ b < w.heap.size ∧ w.cell? ⟨b, off + i * 2, none⟩ = some (.int .i64 (l.getD i Rf.none).ix) ∧ w.cell? ⟨b, off + i * 2 + 1, none⟩ = some (.string (l.getD i Rf.none).txt) ∧ (l.getD i Rf.none).txt.size ≤ 1048576
theorem RfsV.later {w w' : World} {a : Option Addr} {l : List Rf} (h : RfsV w a l) (hb : Below w.heap.size w w') : RfsV w' a l :=
  ⟨h.len, fun i hi => by
    obtain ⟨b, off, e, hl, q0, q1, hn⟩ := h.at_ i hi
    have c : ∀ j, w'.cell? ⟨b, j, none⟩ = w.cell? ⟨b, j, none⟩ := fun j => hb.cell (p := ⟨b, j, none⟩) hl
    exact ⟨b, off, e, Nat.lt_of_lt_of_le hl hb.size, (c _).trans q0, (c _).trans q1, hn⟩⟩
/-- Recorders in a row, of any room. -/
structure RrsV (w : World) (a : Option Addr) (l : List Rr) : Prop where
  len : l.length ≤ 1048576
  wt : ∀ i, i < l.length → wtL (eRr (l.getD i Rr.nil)) ≤ 1048576
  at_ : ∀ i, i < l.length → ∃ b off ve, a = some ⟨b, off, none⟩ ∧ b < w.heap.size ∧ w.rangeAt b (off + i * 18) ve ∧ Raw w shRecorder (eRr (l.getD i Rr.nil)) ve
theorem RrsV.later {w w' : World} {a : Option Addr} {l : List Rr} (h : RrsV w a l) (hb : Below w.heap.size w w') : RrsV w' a l :=
  ⟨h.len, h.wt, fun i hi => by
    obtain ⟨b, off, ve, e, hl, hr, hE⟩ := h.at_ i hi
    exact ⟨b, off, ve, e, Nat.lt_of_lt_of_le hl hb.size, rA_later hr hl hb, hE.later hb⟩⟩
/-- A world whose lists lie anywhere, of any room. -/
structure RwV (w : World) (a0 a1 a2 : Option Addr) (K : Rw) : Prop where
  l0 : RrsV w a0 K.recs
  l1 : RmsV w a1 K.fl
  l2 : RfsV w a2 K.fx
theorem RwV.later {w w' : World} {a0 a1 a2 : Option Addr} {K : Rw} (h : RwV w a0 a1 a2 K) (hb : Below w.heap.size w w') : RwV w' a0 a1 a2 K := ⟨h.l0.later hb, h.l1.later hb, h.l2.later hb⟩
theorem vRf {W : World} {l : List Rf} {v : Value} {t : TypeId} (h : Raw W [.row t shRecFix] [.row l.length (l.flatMap eRf)] [v]) (hw : l.length + wtL (l.flatMap eRf) ≤ 1048576) : ∃ a c, v = .slice a l.length c ∧ l.length ≤ c ∧ RfsV W a l := by
  obtain ⟨a, c, rfl, hc, hm, hall⟩ := raw_at Rf.none eRf (fun _ => rfl) h
  refine ⟨a, c, rfl, hc, by omega, fun i hi => ?_⟩
  obtain ⟨b, off, ve, rfl, hb, hg, hE⟩ := hall i hi
  obtain rfl := rawRecFix hE
  have := wt_mem eRf l _ (getD_mem (d := Rf.none) hi)
  simp only [eRf, wtL] at this
  exact ⟨b, off, rfl, hb, hg 0 _ rfl, hg 1 _ rfl, by omega⟩
theorem vRrs {W : World} {l : List Rr} {v : Value} {t : TypeId} (h : Raw W [.row t shRecorder] [.row l.length (l.flatMap eRr)] [v]) (hw : l.length + wtL (l.flatMap eRr) ≤ 1048576) : ∃ a c, v = .slice a l.length c ∧ l.length ≤ c ∧ RrsV W a l := by
  obtain ⟨a, c, rfl, hc, hm, hall⟩ := raw_at Rr.nil eRr (fun _ => rfl) h
  refine ⟨a, c, rfl, hc, by omega, fun i hi => ?_, fun i hi => ?_⟩
  · have := wt_mem eRr l _ (getD_mem (d := Rr.nil) hi)
    omega
  · exact hall i hi
theorem vRw {W : World} {K : Rw} {cs : List Value} (h : Raw W shRecWorld (eRw K) cs) (hw : wtL (eRw K) ≤ 1048576) : ∃ a0 a1 a2 c0 c1 c2, cs = [.slice a0 K.recs.length c0, .slice a1 K.fl.length c1, .slice a2 K.fx.length c2] ∧ RwV W a0 a1 a2 K ∧ K.recs.length ≤ c0 ∧ K.fl.length ≤ c1 ∧ K.fx.length ≤ c2 := by
  simp only [eRw, wtL] at hw
  obtain ⟨v0, x0, rfl, r0, h1⟩ := h.c_r
  obtain ⟨v1, x1, rfl, r1, h2⟩ := h1.c_r
  obtain ⟨v2, x2, rfl, r2, h3⟩ := h2.c_r
  obtain rfl := h3.c_n
  obtain ⟨a0, c0, rfl, k0, q0⟩ := vRrs r0 (by omega)
  obtain ⟨a1, c1, rfl, k1, q1⟩ := vRm r1 (by omega)
  obtain ⟨a2, c2, rfl, k2, q2⟩ := vRf r2 (by omega)
  exact ⟨a0, a1, a2, c0, c1, c2, rfl, ⟨q0, q1, q2⟩, k0, k1, k2⟩
theorem shB_rw : shB shRecWorld = true := by simp [shB]
/-- A recorder of a row: RecValid answers by both. -/
theorem RrsV.spec {w : World} {a : Option Addr} {l : List Rr} (h : RrsV w a l) (i : Nat) (hi : i < l.length) : ∃ b off ve, a = some ⟨b, off, none⟩ ∧ b < w.heap.size ∧ ve.length = 18 ∧ w.rangeAt b (off + i * 18) ve ∧ Raw w shRecorder (eRr (l.getD i Rr.nil)) ve ∧ wtL (eRr (l.getD i Rr.nil)) ≤ 1048576 := by
  obtain ⟨b, off, ve, e, hl, hr, hE⟩ := h.at_ i hi
  exact ⟨b, off, ve, e, hl, hE.len, hr, hE, h.wt i hi⟩
end Go.Proofs.Ytcefgacmagobnaa
