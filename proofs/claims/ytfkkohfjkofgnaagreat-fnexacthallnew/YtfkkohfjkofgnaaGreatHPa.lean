/-
  Houses: plain, as data by cells, in memory.
-/
import Derived.Test.YtfkkohfjkofgnaaGreatHSh
import Derived.Test.YtfkkohfjkofgnaaGreatMemR
import Derived.Test.YtfkkohfjkofgnaaGreatUL
import Derived.Test.YtfkkohfjkofgnaaGreatUG
import Derived.Test.YtfkkohfjkofgnaaGreatPlainT
namespace Go.Proofs.YtfkkohfjkofgnaaGreat
open Go.RowKit Go.Deep


structure Gn where
  num : Int
  to_ : ByteArray
  by_ : ByteArray
  rul : Rul
def Gn.none : Gn := ⟨0, ByteArray.empty, ByteArray.empty, Rul.none⟩
structure Hs where
  tms : List Tm
  grs : List Gn

def allH (p : Nat → Bool) : Nat → Bool
  | 0 => true
  | n + 1 => allH p n && p n
theorem allH_false {p : Nat → Bool} {k : Nat} (hp : p k = false) : ∀ n, k < n → allH p n = false
  | 0, h => absurd h (Nat.not_lt_zero _)
  | n + 1, h => by
    rw [allH]
    rcases Nat.lt_or_ge k n with h1 | h1
    · rw [allH_false hp n h1]; rfl
    · obtain rfl : k = n := by omega
      rw [hp]; simp
def grantOk (g : Gn) (i : Nat) : Bool := (g.num == (i : Int) + 1) && Pl.nameOk g.to_ && g.by_.toList.isEmpty && ruleOk g.rul
def grantAt (l : List Gn) (i : Nat) : Bool := grantOk (l.getD i Gn.none) i
def houseOk (K : Hs) : Bool := teamsOk K.tms && decide (K.grs.length ≤ 24) && allH (grantAt K.grs) K.grs.length

def eNb (n : Int) : List Dt := [.i n]
def eTm (m : Tm) : List Dt := [.s m.nm, .s m.ov]
def eRl (r : Rul) : List Dt := [.row r.verbs.length (r.verbs.flatMap eNb), .s r.kind, .s r.team, .s r.pre]
def eGn (g : Gn) : List Dt := [.i g.num, .s g.to_, .s g.by_, .row g.rul.verbs.length (g.rul.verbs.flatMap eNb), .s g.rul.kind, .s g.rul.team, .s g.rul.pre]
def eHs (K : Hs) : List Dt := [.row K.tms.length (K.tms.flatMap eTm), .row K.grs.length (K.grs.flatMap eGn)]
theorem dNb (e : List Dt) (h : Typ [.i] e) : ∃ m, e = eNb m := by obtain ⟨a, rfl⟩ := typN1 h; exact ⟨a, rfl⟩
theorem dTm (e : List Dt) (h : Typ shGateTeam e) : ∃ m, e = eTm m := by obtain ⟨a, b, rfl⟩ := typGateTeam h; exact ⟨⟨a, b⟩, rfl⟩
theorem dGn (e : List Dt) (h : Typ shGateGrant e) : ∃ m, e = eGn m := by
  obtain ⟨a0, a1, a2, n3, e3, a4, a5, a6, rfl, t3⟩ := typGateGrant h
  obtain ⟨ms, rfl, rfl⟩ := typ_rows eNb dNb t3
  exact ⟨⟨a0, a1, a2, ⟨ms, a4, a5, a6⟩⟩, rfl⟩
theorem dHs (e : List Dt) (h : Typ shHallHouse e) : ∃ K, e = eHs K := by
  obtain ⟨n0, e0, n1, e1, rfl, t0, t1⟩ := typHallHouse h
  obtain ⟨m0, rfl, rfl⟩ := typ_rows eTm dTm t0
  obtain ⟨m1, rfl, rfl⟩ := typ_rows eGn dGn t1
  exact ⟨⟨m0, m1⟩, rfl⟩

theorem getD_memH {α : Type} {l : List α} {i : Nat} {d : α} (h : i < l.length) : l.getD i d ∈ l := by
  have : l.getD i d = l[i] := by simp [h]
  rw [this]; exact List.getElem_mem h
/-- Element q of a row of its own. -/
theorem Rep.elr {w : World} {tt : Bool} {n q : Nat} {sh : List Sh} {G : List Nat} {es : List Dt} {vs : List Value} (h : Rep w tt (reps n sh) G es vs) (hq : q < n) {p o : Nat} (hr : w.rangeAt p o vs) : ∃ ve G', Rep w tt sh G' (Go.Proofs.YtfkkohfjkofgnaaGreat.el sh.length q es) ve ∧ w.rangeAt p (o + q * sh.length) ve := by
  rw [reps_cut hq] at h
  obtain ⟨F1, F2, d1, d2, c1, c2, rfl, rfl, rfl, h1, h2⟩ := Rep.cut _ h
  obtain ⟨F3, F4, d3, d4, c3, c4, rfl, rfl, rfl, h3, h4⟩ := Rep.cut _ h2
  rw [el_mid (by rw [h1.raw.typ.len, reps_len]) h3.raw.typ.len]
  refine ⟨c3, F3, h3, ?_⟩
  have := (rA_cut (rA_cut hr).2).1
  rwa [h1.len, reps_len] at this
/-- The elements of a list as the laws' copies are. -/
theorem rep_at {α : Type} (d : α) (f : α → List Dt) {W : World} {t : TypeId} {sh : List Sh} {F : List Nat} {l : List α} {v : Value} (hf : ∀ x, (f x).length = sh.length) (h : Rep W true [.row t sh] F [.row l.length (l.flatMap f)] [v]) :
    ∃ p, v = .slice (some ⟨p, 0, none⟩) l.length l.length ∧ p < W.heap.size ∧ l.length ≤ maxLen ∧ ∀ i, i < l.length → ∃ ve G, W.rangeAt p (i * sh.length) ve ∧ Rep W true sh G (f (l.getD i d)) ve := by
  rcases h.slice with ⟨h0, _⟩ | ⟨p, o, c, u, m, G, rfl, rfl, hn, ho, hm, htt, vs, hr, hR⟩
  · cases h0
  · obtain ⟨rfl, rfl, rfl, rfl⟩ := htt rfl
    refine ⟨p, rfl, ho.lt, hn.1, fun i hi => ?_⟩
    obtain ⟨ve, G', hE, hg⟩ := hR.elr hi hr
    rw [el_flat d f _ hf l i hi] at hE
    rw [Nat.zero_add] at hg
    exact ⟨ve, G', hg, hE⟩

/-- Grants in a row, as the laws' copies are. -/
structure GnsIn (w : World) (p : Nat) (l : List Gn) : Prop where
  lt : p < w.heap.size
  len : l.length ≤ 1048576
  at_ : ∀ i, i < l.length → ∃ vb, w.rangeAt p (i * 7) (let g := l.getD i Gn.none; [.int .i64 g.num, .string g.to_, .string g.by_, .slice (some ⟨vb, 0, none⟩) g.rul.verbs.length g.rul.verbs.length, .string g.rul.kind, .string g.rul.team, .string g.rul.pre]) ∧ IntsIn w vb (l.getD i Gn.none).rul.verbs ∧ (l.getD i Gn.none).rul.sized ∧ (l.getD i Gn.none).to_.size ≤ 1048576 ∧ (l.getD i Gn.none).by_.size ≤ 1048576
theorem GnsIn.later {w w' : World} {p : Nat} {l : List Gn} (h : GnsIn w p l) (hb : Below w.heap.size w w') : GnsIn w' p l :=
  ⟨Nat.lt_of_lt_of_le h.lt hb.size, h.len, fun i hi => by
    obtain ⟨vb, h1, h2, h3⟩ := h.at_ i hi
    exact ⟨vb, rA_later h1 h.lt hb, h2.later hb, h3⟩⟩
structure HsV (w : World) (p0 p1 : Nat) (K : Hs) : Prop where
  l0 : TmsIn w p0 K.tms
  l1 : GnsIn w p1 K.grs
theorem HsV.later {w w' : World} {p0 p1 : Nat} {K : Hs} (h : HsV w p0 p1 K) (hb : Below w.heap.size w w') : HsV w' p0 p1 K := ⟨h.l0.later hb, h.l1.later hb⟩
theorem vTm {W : World} {F : List Nat} {l : List Tm} {v : Value} {t : TypeId} (h : Rep W true [.row t shGateTeam] F [.row l.length (l.flatMap eTm)] [v]) (hw : l.length + wtL (l.flatMap eTm) ≤ 1048576) : ∃ p, v = .slice (some ⟨p, 0, none⟩) l.length l.length ∧ TmsIn W p l := by
  obtain ⟨p, rfl, hp, hm, hall⟩ := rep_at Tm.none eTm (fun _ => rfl) h
  refine ⟨p, rfl, hp, by omega, fun i hi => ?_⟩
  obtain ⟨ve, G, hg, hE⟩ := hall i hi
  obtain ⟨_, rfl⟩ := repGateTeam hE
  have := wt_mem eTm l _ (getD_memH (d := Tm.none) hi)
  simp only [eTm, wtL] at this
  refine ⟨hg 0 _ rfl, hg 1 _ rfl, ?_, ?_⟩
  · show ByteArray.size _ ≤ 9223372036854775807; omega
  · show ByteArray.size _ ≤ 9223372036854775807; omega
theorem vNb {W : World} {F : List Nat} {l : List Int} {v : Value} {t : TypeId} (h : Rep W true [.row t [.i]] F [.row l.length (l.flatMap eNb)] [v]) (hw : l.length ≤ 1048576) : ∃ p, v = .slice (some ⟨p, 0, none⟩) l.length l.length ∧ IntsIn W p l := by
  obtain ⟨p, rfl, hp, hm, hall⟩ := rep_at 0 eNb (fun _ => rfl) h
  refine ⟨p, rfl, hp, hw, fun i hi => ?_⟩
  obtain ⟨ve, G, hg, hE⟩ := hall i hi
  obtain ⟨_, rfl⟩ := repN1 hE
  have := hg 0 _ rfl
  simpa using this
theorem vGn {W : World} {F : List Nat} {l : List Gn} {v : Value} {t : TypeId} (h : Rep W true [.row t shGateGrant] F [.row l.length (l.flatMap eGn)] [v]) (hw : l.length + wtL (l.flatMap eGn) ≤ 1048576) : ∃ p, v = .slice (some ⟨p, 0, none⟩) l.length l.length ∧ GnsIn W p l := by
  obtain ⟨p, rfl, hp, hm, hall⟩ := rep_at Gn.none eGn (fun _ => rfl) h
  refine ⟨p, rfl, hp, by omega, fun i hi => ?_⟩
  obtain ⟨ve, G, hg, hE⟩ := hall i hi
  obtain ⟨F3, v3, _, rfl, r3⟩ := repGateGrant hE
  have := wt_mem eGn l _ (getD_memH (d := Gn.none) hi)
  simp only [eGn, wtL] at this
  obtain ⟨vb, rfl, hv⟩ := vNb r3 (by omega)
  refine ⟨vb, hg, hv, ⟨?_, ?_, ?_⟩, by omega, by omega⟩
  · show ByteArray.size _ ≤ 9223372036854775807; omega
  · show ByteArray.size _ ≤ 9223372036854775807; omega
  · show ByteArray.size _ ≤ 9223372036854775807; omega
theorem vHs {W : World} {F : List Nat} {K : Hs} {cs : List Value} (h : Rep W true shHallHouse F (eHs K) cs) (hw : wtL (eHs K) ≤ 1048576) : ∃ p0 p1, cs = [.slice (some ⟨p0, 0, none⟩) K.tms.length K.tms.length, .slice (some ⟨p1, 0, none⟩) K.grs.length K.grs.length] ∧ HsV W p0 p1 K := by
  simp only [eHs, wtL] at hw
  obtain ⟨F0, v0, F1, v1, _, rfl, r0, r1⟩ := repHallHouse h
  obtain ⟨p0, rfl, q0⟩ := vTm r0 (by omega)
  obtain ⟨p1, rfl, q1⟩ := vGn r1 (by omega)
  exact ⟨p0, p1, rfl, ⟨q0, q1⟩⟩
theorem shB_hs : shB shHallHouse = true := by simp [shB]
end Go.Proofs.YtfkkohfjkofgnaaGreat
