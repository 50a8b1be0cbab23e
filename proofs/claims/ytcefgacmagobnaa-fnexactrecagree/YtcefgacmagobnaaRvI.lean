/-
  RecValid by the program, whole.
-/
import Derived.Test.YtcefgacmagobnaaRvH
import Derived.Test.YtcefgacmagobnaaRmI
namespace Go.Proofs.Ytcefgacmagobnaa
open Go.RowKit Go.Deep

theorem Try.sizeRec' : (Try.prog.info? 52).map (·.size) = some 18 := by kernel_rfl

set_option maxRecDepth 8000 in
set_option maxHeartbeats 4000000 in
theorem ballotI (K : Rr) (a0 a1 a2 a3 a4 a5 a6 : Option Addr) (c0 c1 c2 c3 c4 c5 c6 : Nat) (cs : List Value) (hcs : cs = RrC K a0 a1 a2 a3 a4 a5 a6 c0 c1 c2 c3 c4 c5 c6) (w : World) :
    Calls Try.prog 119 #[.agg cs.toArray] w fun e w' => e = .returned (.bool (inB K.bal 1 K.disk.prom)) ∧ Below w.heap.size w w' := by
  have HC := hid hcs
  clear hcs
  obtain ⟨wa, hwa⟩ : ∃ wa, wa = w.alloc (.cells cs.toArray 52) := ⟨_, rfl⟩
  have HB : Hid (Below w.heap.size w wa) := by show Below _ _ _; rw [hwa]; exact blw_alloc (Below.refl _ _) _
  have HX : Hid (LBox wa (w.heap.size) cs) := by show LBox _ _ _; rw [hwa]; exact LBox.new w cs.toArray _ _ rfl
  go_enter Try.func119, Try.ntmps119
  go_upto_region 1 with fail
  rw [← hwa]
  clear hwa
  have yz := HX.out.lt
  have y13 := HX.out.get 13 (.int .i64 K.bal) (by rw [HC.out]; rfl)
  have y6 := HX.out.get 6 (.int .i64 K.disk.prom) (by rw [HC.out]; rfl)
  go_wp2_with (go_at_call 24; refine (withinI _ _ _ _).mono ?_; rintro e w' ⟨rfl, rfl⟩)
  go_ret
  exact ⟨rfl, HB.out⟩

def mayDown (K : Rr) : Bool := !K.lead && !K.try_ && ((K.held.length : Int) == 0) && ((K.wish.length : Int) == 0) && (K.heard == 0)

set_option maxRecDepth 8000 in
set_option maxHeartbeats 4000000 in
theorem mayDownI (K : Rr) (a0 a1 a2 a3 a4 a5 a6 : Option Addr) (c0 c1 c2 c3 c4 c5 c6 : Nat) (cs : List Value) (hcs : cs = RrC K a0 a1 a2 a3 a4 a5 a6 c0 c1 c2 c3 c4 c5 c6) (w : World) :
    Calls Try.prog 60 #[.agg cs.toArray] w fun e w' => e = .returned (.bool (mayDown K)) ∧ Below w.heap.size w w' := by
  obtain ⟨R, hR⟩ : ∃ R, R = mayDown K := ⟨_, rfl⟩
  have HR : Hid (R = (!K.lead && !K.try_ && ((K.held.length : Int) == 0) && ((K.wish.length : Int) == 0) && (K.heard == 0))) := hR
  rw [← hR]
  clear hR
  have HC := hid hcs
  clear hcs
  obtain ⟨wa, hwa⟩ : ∃ wa, wa = w.alloc (.cells cs.toArray 52) := ⟨_, rfl⟩
  have HB : Hid (Below w.heap.size w wa) := by show Below _ _ _; rw [hwa]; exact blw_alloc (Below.refl _ _) _
  have HX : Hid (LBox wa (w.heap.size) cs) := by show LBox _ _ _; rw [hwa]; exact LBox.new w cs.toArray _ _ rfl
  go_enter Try.func60, Try.ntmps60
  go_upto_region 1 with fail
  rw [← hwa]
  clear hwa
  have yz := HX.out.lt
  have y11 := HX.out.get 11 (.bool K.lead) (by rw [HC.out]; rfl)
  have y12 := HX.out.get 12 (.bool K.try_) (by rw [HC.out]; rfl)
  have y9 := HX.out.get 9 (.slice a2 K.held.length c2) (by rw [HC.out]; rfl)
  have y10 := HX.out.get 10 (.slice a3 K.wish.length c3) (by rw [HC.out]; rfl)
  have y17 := HX.out.get 17 (.int .i64 K.heard) (by rw [HC.out]; rfl)
  obtain ⟨nh, hnh⟩ : ∃ nh, nh = K.held.length := ⟨_, rfl⟩
  obtain ⟨nw, hnw⟩ : ∃ nw, nw = K.wish.length := ⟨_, rfl⟩
  rw [← hnh, ← hnw] at HR
  rw [← hnh] at y9
  rw [← hnw] at y10
  clear hnh hnw
  cases k0 : K.lead
  · rw [k0] at y11
    cases k1 : K.try_
    · rw [k1] at y12
      cases k2 : ((nh : Int) == 0)
      · have HE : Hid (R = false) := by show R = _; rw [HR.out, k0, k1, k2]; rfl
        clear HR
        go_wp2
        go_ret
        exact ⟨Pl.ret_bool HE.out.symm, HB.out⟩
      cases k3 : ((nw : Int) == 0)
      · have HE : Hid (R = false) := by show R = _; rw [HR.out, k0, k1, k2, k3]; rfl
        clear HR
        go_wp2
        go_ret
        exact ⟨Pl.ret_bool HE.out.symm, HB.out⟩
      cases k4 : (K.heard == 0)
      · have HE : Hid (R = false) := by show R = _; rw [HR.out, k0, k1, k2, k3, k4]; rfl
        clear HR
        go_wp2
        go_ret
        exact ⟨Pl.ret_bool HE.out.symm, HB.out⟩
      · have HE : Hid (R = true) := by show R = _; rw [HR.out, k0, k1, k2, k3, k4]; rfl
        clear HR
        go_wp2
        go_ret
        exact ⟨Pl.ret_bool HE.out.symm, HB.out⟩
    · rw [k1] at y12
      have HE : Hid (R = false) := by show R = _; rw [HR.out, k0, k1]; rfl
      clear HR
      go_wp2
      go_ret
      exact ⟨Pl.ret_bool HE.out.symm, HB.out⟩
  · rw [k0] at y11
    have HE : Hid (R = false) := by show R = _; rw [HR.out, k0]; rfl
    clear HR
    go_wp2
    go_ret
    exact ⟨Pl.ret_bool HE.out.symm, HB.out⟩

/-- The role. -/
def roleV (K : Rr) : Value := if K.lead then (if K.try_ then .nilIface else .iface 135 (.agg #[])) else if K.try_ then .iface 136 (.agg #[]) else .iface 137 (.agg #[])

set_option maxRecDepth 8000 in
set_option maxHeartbeats 4000000 in
theorem roleOfI (K : Rr) (a0 a1 a2 a3 a4 a5 a6 : Option Addr) (c0 c1 c2 c3 c4 c5 c6 : Nat) (cs : List Value) (hcs : cs = RrC K a0 a1 a2 a3 a4 a5 a6 c0 c1 c2 c3 c4 c5 c6) (w : World) :
    Calls Try.prog 59 #[.agg cs.toArray] w fun e w' => e = .returned (.tuple #[roleV K, .bool (!(K.lead && K.try_))]) ∧ Below w.heap.size w w' := by
  obtain ⟨R, hR⟩ : ∃ R, R = roleV K := ⟨_, rfl⟩
  obtain ⟨B, hB⟩ : ∃ B, B = !(K.lead && K.try_) := ⟨_, rfl⟩
  have HR : Hid (R = roleV K) := hR
  have HQ : Hid (B = !(K.lead && K.try_)) := hB
  rw [← hR, ← hB]
  clear hR hB
  have HC := hid hcs
  clear hcs
  obtain ⟨wa, hwa⟩ : ∃ wa, wa = w.alloc (.cells cs.toArray 52) := ⟨_, rfl⟩
  have HB : Hid (Below w.heap.size w wa) := by show Below _ _ _; rw [hwa]; exact blw_alloc (Below.refl _ _) _
  have HX : Hid (LBox wa (w.heap.size) cs) := by show LBox _ _ _; rw [hwa]; exact LBox.new w cs.toArray _ _ rfl
  go_enter Try.func59, Try.ntmps59
  go_upto_region 1 with fail
  rw [← hwa]
  clear hwa
  have yz := HX.out.lt
  have y11 := HX.out.get 11 (.bool K.lead) (by rw [HC.out]; rfl)
  have y12 := HX.out.get 12 (.bool K.try_) (by rw [HC.out]; rfl)
  cases k0 : K.lead <;> cases k1 : K.try_
  all_goals
    have HE : Hid (R = _) := HR.out.trans (by unfold roleV; rw [k0, k1])
    have HF : Hid (B = _) := HQ.out.trans (by rw [k0, k1])
    clear HR HQ
    rw [k0] at y11
    rw [k1] at y12
    clear k0 k1
    go_wp2
    go_ret2
    exact ⟨by rw [HE.out, HF.out]; rfl, HB.out⟩

theorem methLeads (w : World) : (method 271 135 (.agg #[]) "loop.example/wharfdesk/impl.suits").run Try.prog w = .ok (118, .agg #[]) w := by kernel_rfl
theorem methTries (w : World) : (method 271 136 (.agg #[]) "loop.example/wharfdesk/impl.suits").run Try.prog w = .ok (120, .agg #[]) w := by kernel_rfl
theorem methQuiet (w : World) : (method 271 137 (.agg #[]) "loop.example/wharfdesk/impl.suits").run Try.prog w = .ok (121, .agg #[]) w := by kernel_rfl

def leadsS (K : Rr) : Bool := inB K.bal 1 K.disk.prom && ((K.yes.length : Int) == 0) && ((K.best.length : Int) == 0)

set_option maxRecDepth 8000 in
set_option maxHeartbeats 4000000 in
theorem leadsI (K : Rr) (a0 a1 a2 a3 a4 a5 a6 : Option Addr) (c0 c1 c2 c3 c4 c5 c6 : Nat) (cs : List Value) (hcs : cs = RrC K a0 a1 a2 a3 a4 a5 a6 c0 c1 c2 c3 c4 c5 c6) (w : World) :
    Calls Try.prog 118 #[.agg #[], .agg cs.toArray] w fun e w' => e = .returned (.bool (leadsS K)) ∧ Below w.heap.size w w' := by
  obtain ⟨R, hR⟩ : ∃ R, R = leadsS K := ⟨_, rfl⟩
  have HR : Hid (R = (inB K.bal 1 K.disk.prom && ((K.yes.length : Int) == 0) && ((K.best.length : Int) == 0))) := hR
  rw [← hR]
  clear hR
  have HBA := hid (fun W => ballotI K a0 a1 a2 a3 a4 a5 a6 c0 c1 c2 c3 c4 c5 c6 cs hcs W)
  have HC := hid hcs
  clear hcs
  obtain ⟨wa, hwa⟩ : ∃ wa, wa = (w.alloc (.cells #[] 135)).alloc (.cells cs.toArray 52) := ⟨_, rfl⟩
  have HB : Hid (Below w.heap.size w wa) := by show Below _ _ _; rw [hwa]; exact blw_alloc (blw_alloc (Below.refl _ _) _) _
  have HX : Hid (LBox wa (w.heap.size + 1) cs) := by show LBox _ _ _; rw [hwa]; exact LBox.new (w.alloc _) cs.toArray _ _ (by simp)
  go_enter Try.func118, Try.ntmps118
  go_upto_region 1 with fail
  rw [← hwa]
  clear hwa
  have yz := HX.out.lt
  have hrg := HX.out.at_
  go_wp2_with (refine wpList_load_mid rfl 52 _ rfl (w.heap.size + 1) 0 rfl cs _ hrg Try.underlying52 rfl (by rw [HC.out, RrC_len]; exact Try.sizeRec') ?_)
  refine (HBA.out _).mono ?_
  rintro e w2 ⟨rfl, hb⟩
  have HB2 := hid (blw_trans HB.out hb)
  have HX2 := hid (HX.out.later hb)
  clear hb hrg yz HB
  have yz := HX2.out.lt
  have y14 := HX2.out.get 14 (.slice a4 K.yes.length c4) (by rw [HC.out]; rfl)
  have y15 := HX2.out.get 15 (.slice a5 K.best.length c5) (by rw [HC.out]; rfl)
  obtain ⟨ny, hny⟩ : ∃ ny, ny = K.yes.length := ⟨_, rfl⟩
  rw [← hny] at HR y14
  clear hny
  obtain ⟨nb, hnb⟩ : ∃ nb, nb = K.best.length := ⟨_, rfl⟩
  rw [← hnb] at HR y15
  clear hnb
  cases k0 : inB K.bal 1 K.disk.prom
  · have HE : Hid (R = false) := by show R = _; rw [HR.out, k0]; rfl
    clear HR
    go_wp2
    go_ret
    exact ⟨Pl.ret_bool HE.out.symm, HB2.out⟩
  cases k1 : ((ny : Int) == 0)
  · have HE : Hid (R = false) := by show R = _; rw [HR.out, k0, k1]; rfl
    clear HR
    go_wp2
    go_ret
    exact ⟨Pl.ret_bool HE.out.symm, HB2.out⟩
  cases k2 : ((nb : Int) == 0)
  · have HE : Hid (R = false) := by show R = _; rw [HR.out, k0, k1, k2]; rfl
    clear HR
    go_wp2
    go_ret
    exact ⟨Pl.ret_bool HE.out.symm, HB2.out⟩
  have HE : Hid (R = true) := by show R = _; rw [HR.out, k0, k1, k2]; rfl
  clear HR
  go_wp2
  go_ret
  exact ⟨Pl.ret_bool HE.out.symm, HB2.out⟩

def triesS (K : Rr) : Bool := inB K.bal 1 K.disk.prom && ((K.acks.length : Int) == 0)

set_option maxRecDepth 8000 in
set_option maxHeartbeats 4000000 in
theorem triesI (K : Rr) (a0 a1 a2 a3 a4 a5 a6 : Option Addr) (c0 c1 c2 c3 c4 c5 c6 : Nat) (cs : List Value) (hcs : cs = RrC K a0 a1 a2 a3 a4 a5 a6 c0 c1 c2 c3 c4 c5 c6) (w : World) :
    Calls Try.prog 120 #[.agg #[], .agg cs.toArray] w fun e w' => e = .returned (.bool (triesS K)) ∧ Below w.heap.size w w' := by
  obtain ⟨R, hR⟩ : ∃ R, R = triesS K := ⟨_, rfl⟩
  have HR : Hid (R = (inB K.bal 1 K.disk.prom && ((K.acks.length : Int) == 0))) := hR
  rw [← hR]
  clear hR
  have HBA := hid (fun W => ballotI K a0 a1 a2 a3 a4 a5 a6 c0 c1 c2 c3 c4 c5 c6 cs hcs W)
  have HC := hid hcs
  clear hcs
  obtain ⟨wa, hwa⟩ : ∃ wa, wa = (w.alloc (.cells #[] 136)).alloc (.cells cs.toArray 52) := ⟨_, rfl⟩
  have HB : Hid (Below w.heap.size w wa) := by show Below _ _ _; rw [hwa]; exact blw_alloc (blw_alloc (Below.refl _ _) _) _
  have HX : Hid (LBox wa (w.heap.size + 1) cs) := by show LBox _ _ _; rw [hwa]; exact LBox.new (w.alloc _) cs.toArray _ _ (by simp)
  go_enter Try.func120, Try.ntmps120
  go_upto_region 1 with fail
  rw [← hwa]
  clear hwa
  have yz := HX.out.lt
  have hrg := HX.out.at_
  go_wp2_with (refine wpList_load_mid rfl 52 _ rfl (w.heap.size + 1) 0 rfl cs _ hrg Try.underlying52 rfl (by rw [HC.out, RrC_len]; exact Try.sizeRec') ?_)
  refine (HBA.out _).mono ?_
  rintro e w2 ⟨rfl, hb⟩
  have HB2 := hid (blw_trans HB.out hb)
  have HX2 := hid (HX.out.later hb)
  clear hb hrg yz HB
  have yz := HX2.out.lt
  have y16 := HX2.out.get 16 (.slice a6 K.acks.length c6) (by rw [HC.out]; rfl)
  obtain ⟨na, hna⟩ : ∃ na, na = K.acks.length := ⟨_, rfl⟩
  rw [← hna] at HR y16
  clear hna
  cases k0 : inB K.bal 1 K.disk.prom
  · have HE : Hid (R = false) := by show R = _; rw [HR.out, k0]; rfl
    clear HR
    go_wp2
    go_ret
    exact ⟨Pl.ret_bool HE.out.symm, HB2.out⟩
  cases k1 : ((na : Int) == 0)
  · have HE : Hid (R = false) := by show R = _; rw [HR.out, k0, k1]; rfl
    clear HR
    go_wp2
    go_ret
    exact ⟨Pl.ret_bool HE.out.symm, HB2.out⟩
  have HE : Hid (R = true) := by show R = _; rw [HR.out, k0, k1]; rfl
  clear HR
  go_wp2
  go_ret
  exact ⟨Pl.ret_bool HE.out.symm, HB2.out⟩

def quietS (K : Rr) : Bool := (K.bal == 0) && ((K.yes.length : Int) == 0) && ((K.best.length : Int) == 0) && ((K.acks.length : Int) == 0)

set_option maxRecDepth 8000 in
set_option maxHeartbeats 4000000 in
theorem quietI (K : Rr) (a0 a1 a2 a3 a4 a5 a6 : Option Addr) (c0 c1 c2 c3 c4 c5 c6 : Nat) (cs : List Value) (hcs : cs = RrC K a0 a1 a2 a3 a4 a5 a6 c0 c1 c2 c3 c4 c5 c6) (w : World) :
    Calls Try.prog 121 #[.agg #[], .agg cs.toArray] w fun e w' => e = .returned (.bool (quietS K)) ∧ Below w.heap.size w w' := by
  obtain ⟨R, hR⟩ : ∃ R, R = quietS K := ⟨_, rfl⟩
  have HR : Hid (R = ((K.bal == 0) && ((K.yes.length : Int) == 0) && ((K.best.length : Int) == 0) && ((K.acks.length : Int) == 0))) := hR
  rw [← hR]
  clear hR
  have HC := hid hcs
  clear hcs
  obtain ⟨wa, hwa⟩ : ∃ wa, wa = (w.alloc (.cells #[] 137)).alloc (.cells cs.toArray 52) := ⟨_, rfl⟩
  have HB : Hid (Below w.heap.size w wa) := by show Below _ _ _; rw [hwa]; exact blw_alloc (blw_alloc (Below.refl _ _) _) _
  have HX : Hid (LBox wa (w.heap.size + 1) cs) := by show LBox _ _ _; rw [hwa]; exact LBox.new (w.alloc _) cs.toArray _ _ (by simp)
  go_enter Try.func121, Try.ntmps121
  go_upto_region 1 with fail
  rw [← hwa]
  clear hwa
  have yz := HX.out.lt
  have y13 := HX.out.get 13 (.int .i64 K.bal) (by rw [HC.out]; rfl)
  have y14 := HX.out.get 14 (.slice a4 K.yes.length c4) (by rw [HC.out]; rfl)
  have y15 := HX.out.get 15 (.slice a5 K.best.length c5) (by rw [HC.out]; rfl)
  have y16 := HX.out.get 16 (.slice a6 K.acks.length c6) (by rw [HC.out]; rfl)
  obtain ⟨ny, hny⟩ : ∃ ny, ny = K.yes.length := ⟨_, rfl⟩
  rw [← hny] at HR y14
  clear hny
  obtain ⟨nb, hnb⟩ : ∃ nb, nb = K.best.length := ⟨_, rfl⟩
  rw [← hnb] at HR y15
  clear hnb
  obtain ⟨na, hna⟩ : ∃ na, na = K.acks.length := ⟨_, rfl⟩
  rw [← hna] at HR y16
  clear hna
  cases k0 : (K.bal == 0)
  · have HE : Hid (R = false) := by show R = _; rw [HR.out, k0]; rfl
    clear HR
    go_wp2
    go_ret
    exact ⟨Pl.ret_bool HE.out.symm, HB.out⟩
  cases k1 : ((ny : Int) == 0)
  · have HE : Hid (R = false) := by show R = _; rw [HR.out, k0, k1]; rfl
    clear HR
    go_wp2
    go_ret
    exact ⟨Pl.ret_bool HE.out.symm, HB.out⟩
  cases k2 : ((nb : Int) == 0)
  · have HE : Hid (R = false) := by show R = _; rw [HR.out, k0, k1, k2]; rfl
    clear HR
    go_wp2
    go_ret
    exact ⟨Pl.ret_bool HE.out.symm, HB.out⟩
  cases k3 : ((na : Int) == 0)
  · have HE : Hid (R = false) := by show R = _; rw [HR.out, k0, k1, k2, k3]; rfl
    clear HR
    go_wp2
    go_ret
    exact ⟨Pl.ret_bool HE.out.symm, HB.out⟩
  have HE : Hid (R = true) := by show R = _; rw [HR.out, k0, k1, k2, k3]; rfl
  clear HR
  go_wp2
  go_ret
  exact ⟨Pl.ret_bool HE.out.symm, HB.out⟩

end Go.Proofs.Ytcefgacmagobnaa

namespace Go.Proofs.Ytcefgacmagobnaa
open Go.RowKit Go.Deep

def newOk (n o : Int) : Bool := inB o 1 5 && inB n 1 o
theorem setCells_size : ∀ (vs : List Value) (w : World) (b o : Nat), (w.setCells b o vs).heap.size = w.heap.size
  | [], _, _, _ => rfl
  | v :: vs, w, b, o => by rw [World.setCells, setCells_size vs]; simp [World.setCell]
theorem Try.sizeRec : (Try.prog.info? 52).map (·.size) = some 18 := by kernel_rfl

set_option maxHeartbeats 1000000 in
theorem isRecI (n o : Int) (w : World) :
    Calls Try.prog 52 #[.int .i64 n, .int .i64 o] w fun e w' => e = .returned (.bool (newOk n o)) ∧ w = w' := by
  unfold newOk
  go_enter Try.func52, Try.ntmps52
  cases h0 : inB o 1 5
  · go_wp2_with (go_at_call 24; refine (withinI _ _ _ _).mono ?_; rintro e w' ⟨rfl, rfl⟩)
    go_ret
    exact ⟨rfl, rfl⟩
  · go_wp2_with (go_at_call 24; refine (withinI _ _ _ _).mono ?_; rintro e w' ⟨rfl, rfl⟩)
    go_ret
    exact ⟨Pl.ret_bool (by simp), rfl⟩

end Go.Proofs.Ytcefgacmagobnaa

namespace Go.Proofs.Ytcefgacmagobnaa
open Go.RowKit Go.Deep

theorem LBox.part {W : World} {p : Nat} {cs : List Value} (h : LBox W p cs) (o : Nat) (xs : List Value) (hx : ∀ j v, xs[j]? = some v → cs[o + j]? = some v) : W.rangeAt p o xs := fun j v hv => by
  have := h.at_ (o + j) v (hx j v hv)
  rwa [Nat.zero_add] at this

/-- What the role asks. -/
def suitsK (K : Rr) : Bool := if K.lead then (if K.try_ then false else leadsS K) else if K.try_ then triesS K else quietS K

theorem b0 (n : Nat) : ((n : Int) == 0) = decide (n = 0) := by
  rw [Bool.eq_iff_iff]; simp
theorem recOk_eq (K : Rr) : (newOk K.num K.of_ && diskOk K.safe && diskOk K.disk && (decide (K.held.length ≤ 400) && allTo (heldAt K) K.held.length) && wishesOk K.wish && inB K.heard 0 1000000 && numsOk K.yes K.of_ && slotsM K.best 1000000 && acksOk K.acks K.of_ && !(K.lead && K.try_) && suitsK K && (K.up || mayDown K)) = recOk K := by
  rw [slotsM_eq]
  unfold recOk newOk suitsK roleOk quietB mayDown leadsS triesS quietS
  simp only [b0]
  by_cases hh : 0 ≤ K.heard
  · have e : decide ((K.held.length : Int) + K.wish.length + K.heard = 0) = (decide (K.held.length = 0) && decide (K.wish.length = 0) && (K.heard == 0)) := by
      rw [Bool.eq_iff_iff]; simp only [Bool.and_eq_true, decide_eq_true_eq, beq_iff_eq]; omega
    have e2 : decide (K.yes.length + K.best.length + K.acks.length = 0) = (decide (K.yes.length = 0) && decide (K.best.length = 0) && decide (K.acks.length = 0)) := by
      rw [Bool.eq_iff_iff]; simp only [Bool.and_eq_true, decide_eq_true_eq]; omega
    have e3 : decide (0 < K.yes.length + K.best.length) = !(decide (K.yes.length = 0) && decide (K.best.length = 0)) := by
      rw [Bool.eq_iff_iff]; simp only [decide_eq_true_eq, Bool.not_eq_true', Bool.and_eq_false_iff, decide_eq_false_iff_not]; omega
    have e4 : decide (0 < K.acks.length) = !decide (K.acks.length = 0) := by
      rw [Bool.eq_iff_iff]; simp only [decide_eq_true_eq, Bool.not_eq_true', decide_eq_false_iff_not]; omega
    have e5 : decide (K.bal = 0) = (K.bal == 0) := by
      rw [Bool.eq_iff_iff]; simp only [decide_eq_true_eq, beq_iff_eq]
    rw [e, e2, e3, e4, e5]
    generalize inB K.num 1 K.of_ = t0
    generalize inB K.of_ 1 5 = t1
    generalize diskOk K.safe = t2
    generalize diskOk K.disk = t3
    generalize decide (K.held.length ≤ 400) = t4
    generalize allTo (heldAt K) K.held.length = t5
    generalize wishesOk K.wish = t6
    generalize inB K.heard 0 1000000 = t7
    generalize numsOk K.yes K.of_ = t8
    generalize slotsOk K.best = t9
    generalize acksOk K.acks K.of_ = t10
    generalize inB K.bal 1 K.disk.prom = t11
    generalize decide (K.yes.length = 0) = t12
    generalize decide (K.best.length = 0) = t13
    generalize decide (K.acks.length = 0) = t14
    generalize (K.bal == 0) = t15
    generalize decide (K.held.length = 0) = t16
    generalize decide (K.wish.length = 0) = t17
    generalize (K.heard == 0) = t18
    cases K.lead <;> cases K.try_ <;> cases K.up <;> simp <;> ac_rfl
  · have : inB K.heard 0 1000000 = false := by unfold inB; simp [hh]
    rw [this]
    simp

end Go.Proofs.Ytcefgacmagobnaa

namespace Go.Proofs.Ytcefgacmagobnaa
open Go.RowKit Go.Deep

set_option maxRecDepth 8000 in
set_option maxHeartbeats 40000000 in
theorem recValidV (K : Rr) (a0 a1 a2 a3 a4 a5 a6 : Option Addr) (c0 c1 c2 c3 c4 c5 c6 : Nat) (cs : List Value) (hcs : cs = RrC K a0 a1 a2 a3 a4 a5 a6 c0 c1 c2 c3 c4 c5 c6) (w : World) (h : RrV w a0 a1 a2 a3 a4 a5 a6 K) (z0 : K.safe.slots.length ≤ c0) (z1 : K.disk.slots.length ≤ c1) (z3 : K.wish.length ≤ c3) :
    Calls Try.prog 25 #[.agg cs.toArray] w fun e w' => e = .returned (.bool (recOk K)) ∧ Below w.heap.size w w' := by
  have HC := hid hcs
  have HZ := hid (And.intro z0 (And.intro z1 z3))
  have HV := hid h
  have HHE := hid (fun W hv => heldOkI K a0 a1 a2 a3 a4 a5 a6 c0 c1 c2 c3 c4 c5 c6 cs hcs W hv)
  have HRO := hid (fun W => roleOfI K a0 a1 a2 a3 a4 a5 a6 c0 c1 c2 c3 c4 c5 c6 cs hcs W)
  have HLE := hid (fun W => leadsI K a0 a1 a2 a3 a4 a5 a6 c0 c1 c2 c3 c4 c5 c6 cs hcs W)
  have HTR := hid (fun W => triesI K a0 a1 a2 a3 a4 a5 a6 c0 c1 c2 c3 c4 c5 c6 cs hcs W)
  have HQU := hid (fun W => quietI K a0 a1 a2 a3 a4 a5 a6 c0 c1 c2 c3 c4 c5 c6 cs hcs W)
  have HMD := hid (fun W => mayDownI K a0 a1 a2 a3 a4 a5 a6 c0 c1 c2 c3 c4 c5 c6 cs hcs W)
  obtain ⟨R, hR⟩ : ∃ R, R = recOk K := ⟨_, rfl⟩
  have HR : Hid (R = (newOk K.num K.of_ && diskOk K.safe && diskOk K.disk && (decide (K.held.length ≤ 400) && allTo (heldAt K) K.held.length) && wishesOk K.wish && inB K.heard 0 1000000 && numsOk K.yes K.of_ && slotsM K.best 1000000 && acksOk K.acks K.of_ && !(K.lead && K.try_) && suitsK K && (K.up || mayDown K))) := by show R = _; rw [recOk_eq]; exact hR
  rw [← hR]
  clear hR hcs h z0 z1 z3
  obtain ⟨wa, hwa⟩ : ∃ wa, wa = w.alloc (.cells cs.toArray 52) := ⟨_, rfl⟩
  have HB0 : Hid (Below w.heap.size w wa) := by show Below _ _ _; rw [hwa]; exact blw_alloc (Below.refl _ _) _
  have HX0 : Hid (LBox wa w.heap.size cs) := by show LBox _ _ _; rw [hwa]; exact LBox.new w cs.toArray _ _ rfl
  have HV0 := hid (HV.out.later HB0.out)
  clear HV
  go_enter Try.func25, Try.ntmps25
  go_upto_region 1 with fail
  rw [← hwa]
  clear hwa
  have yz := HX0.out.lt
  have y0 := HX0.out.get 0 (.int .i64 K.num) (by rw [HC.out]; rfl)
  have y1 := HX0.out.get 1 (.int .i64 K.of_) (by rw [HC.out]; rfl)
  cases k0 : newOk K.num K.of_
  · have HE : Hid (R = false) := by show R = _; rw [HR.out, k0]; rfl
    clear HR
    go_wp2_with (go_at_call 52; refine (isRecI _ _ _).mono ?_; rintro e w' ⟨rfl, rfl⟩)
    go_ret
    exact ⟨Pl.ret_bool HE.out.symm, HB0.out⟩
  have hr3 : wa.rangeAt w.heap.size 3 [.int .i64 K.safe.prom, .int .i64 K.safe.known, .slice a0 K.safe.slots.length c0] := HX0.out.part 3 _ (fun j v hv => by rw [HC.out]; match j, hv with | 0, hv => exact hv | 1, hv => exact hv | 2, hv => exact hv | n + 3, hv => simp at hv)
  go_wp2_with (first | (go_at_call 52; refine (isRecI _ _ _).mono ?_; rintro e w' ⟨rfl, rfl⟩) | (refine load_mid_g (by kernel_rfl) 47 _ rfl w.heap.size 3 rfl [.int .i64 K.safe.prom, .int .i64 K.safe.known, .slice a0 K.safe.slots.length c0] _ hr3 Try.underlying47 rfl (by kernel_rfl) ?_))
  refine (recDiskOkV K.safe a0 c0 wa HV0.out.l0 HZ.out.1).mono ?_
  rintro e W1 ⟨rfl, hb⟩
  clear yz y0 y1 hr3
  have HB1 := hid (blw_trans HB0.out hb)
  have HX1 := hid (HX0.out.later hb)
  have HV1 := hid (HV0.out.later hb)
  clear hb HB0 HX0 HV0
  have yz := HX1.out.lt
  cases k1 : diskOk K.safe
  · have HE : Hid (R = false) := by show R = _; rw [HR.out, k0, k1]; rfl
    clear HR
    go_wp2
    go_ret
    exact ⟨Pl.ret_bool HE.out.symm, HB1.out⟩
  have hr6 : W1.rangeAt w.heap.size 6 [.int .i64 K.disk.prom, .int .i64 K.disk.known, .slice a1 K.disk.slots.length c1] := HX1.out.part 6 _ (fun j v hv => by rw [HC.out]; match j, hv with | 0, hv => exact hv | 1, hv => exact hv | 2, hv => exact hv | n + 3, hv => simp at hv)
  go_wp2_with (refine load_mid_g (by kernel_rfl) 47 _ rfl w.heap.size 6 rfl [.int .i64 K.disk.prom, .int .i64 K.disk.known, .slice a1 K.disk.slots.length c1] _ hr6 Try.underlying47 rfl (by kernel_rfl) ?_)
  refine (recDiskOkV K.disk a1 c1 W1 HV1.out.l1 HZ.out.2.1).mono ?_
  rintro e W2 ⟨rfl, hb⟩
  clear yz hr6
  have HB2 := hid (blw_trans HB1.out hb)
  have HX2 := hid (HX1.out.later hb)
  have HV2 := hid (HV1.out.later hb)
  clear hb HB1 HX1 HV1
  have yz := HX2.out.lt
  cases k2 : diskOk K.disk
  · have HE : Hid (R = false) := by show R = _; rw [HR.out, k0, k1, k2]; rfl
    clear HR
    go_wp2
    go_ret
    exact ⟨Pl.ret_bool HE.out.symm, HB2.out⟩
  have hrg := HX2.out.at_
  go_wp2_with (refine wpList_load_mid rfl 52 _ rfl w.heap.size 0 rfl cs _ hrg Try.underlying52 rfl (by rw [HC.out, RrC_len]; exact Try.sizeRec') ?_)
  refine (HHE.out W2 HV2.out.l2).mono ?_
  rintro e W3 ⟨rfl, hb⟩
  clear yz hrg
  have HB3 := hid (blw_trans HB2.out hb)
  have HX3 := hid (HX2.out.later hb)
  have HV3 := hid (HV2.out.later hb)
  clear hb HB2 HX2 HV2
  have yz := HX3.out.lt
  cases k3 : (decide (K.held.length ≤ 400) && allTo (heldAt K) K.held.length)
  · have HE : Hid (R = false) := by show R = _; rw [HR.out, k0, k1, k2, k3]; rfl
    clear HR
    go_wp2
    go_ret
    exact ⟨Pl.ret_bool HE.out.symm, HB3.out⟩
  have y10 := HX3.out.get 10 (.slice a3 K.wish.length c3) (by rw [HC.out]; rfl)
  have y17 := HX3.out.get 17 (.int .i64 K.heard) (by rw [HC.out]; rfl)
  go_wp2_with fail
  refine (wishesOkI K.wish a3 c3 W3 HV3.out.l3 HZ.out.2.2).mono ?_
  rintro e w' ⟨rfl, rfl⟩
  cases k4 : wishesOk K.wish
  · have HE : Hid (R = false) := by show R = _; rw [HR.out, k0, k1, k2, k3, k4]; rfl
    clear HR
    go_wp2
    go_ret
    exact ⟨Pl.ret_bool HE.out.symm, HB3.out⟩
  cases k5 : inB K.heard 0 1000000
  · have HE : Hid (R = false) := by show R = _; rw [HR.out, k0, k1, k2, k3, k4, k5]; rfl
    clear HR
    go_wp2_with (go_at_call 24; refine (withinI _ _ _ _).mono ?_; rintro e w' ⟨rfl, rfl⟩)
    go_ret
    exact ⟨Pl.ret_bool HE.out.symm, HB3.out⟩
  have y14 := HX3.out.get 14 (.slice a4 K.yes.length c4) (by rw [HC.out]; rfl)
  have y1 := HX3.out.get 1 (.int .i64 K.of_) (by rw [HC.out]; rfl)
  go_wp2_with (go_at_call 24; refine (withinI _ _ _ _).mono ?_; rintro e w' ⟨rfl, rfl⟩)
  refine (numbersOkI K.yes K.of_ a4 c4 W3 HV3.out.l4).mono ?_
  rintro e W4 ⟨rfl, hb⟩
  clear yz y10 y17 y14 y1
  have HB4 := hid (blw_trans HB3.out hb)
  have HX4 := hid (HX3.out.later hb)
  have HV4 := hid (HV3.out.later hb)
  clear hb HB3 HX3 HV3
  have yz := HX4.out.lt
  cases k6 : numsOk K.yes K.of_
  · have HE : Hid (R = false) := by show R = _; rw [HR.out, k0, k1, k2, k3, k4, k5, k6]; rfl
    clear HR
    go_wp2
    go_ret
    exact ⟨Pl.ret_bool HE.out.symm, HB4.out⟩
  have y15 := HX4.out.get 15 (.slice a5 K.best.length c5) (by rw [HC.out]; rfl)
  go_wp2_with fail
  refine (slotsOkI K.best a5 c5 1000000 W4 HV4.out.l5).mono ?_
  rintro e W5 ⟨rfl, hb⟩
  clear yz y15
  have HB5 := hid (blw_trans HB4.out hb)
  have HX5 := hid (HX4.out.later hb)
  have HV5 := hid (HV4.out.later hb)
  clear hb HB4 HX4 HV4
  have yz := HX5.out.lt
  cases k7 : slotsM K.best 1000000
  · have HE : Hid (R = false) := by show R = _; rw [HR.out, k0, k1, k2, k3, k4, k5, k6, k7]; rfl
    clear HR
    go_wp2
    go_ret
    exact ⟨Pl.ret_bool HE.out.symm, HB5.out⟩
  have y16 := HX5.out.get 16 (.slice a6 K.acks.length c6) (by rw [HC.out]; rfl)
  have y1 := HX5.out.get 1 (.int .i64 K.of_) (by rw [HC.out]; rfl)
  go_wp2_with fail
  refine (acksOkI K.acks K.of_ a6 c6 W5 HV5.out.l6).mono ?_
  rintro e W6 ⟨rfl, hb⟩
  clear yz y16 y1
  have HB6 := hid (blw_trans HB5.out hb)
  have HX6 := hid (HX5.out.later hb)
  have HV6 := hid (HV5.out.later hb)
  clear hb HB5 HX5 HV5
  have yz := HX6.out.lt
  cases k8 : acksOk K.acks K.of_
  · have HE : Hid (R = false) := by show R = _; rw [HR.out, k0, k1, k2, k3, k4, k5, k6, k7, k8]; rfl
    clear HR
    go_wp2
    go_ret
    exact ⟨Pl.ret_bool HE.out.symm, HB6.out⟩
  have hrg := HX6.out.at_
  go_wp2_with (refine wpList_load_mid rfl 52 _ rfl w.heap.size 0 rfl cs _ hrg Try.underlying52 rfl (by rw [HC.out, RrC_len]; exact Try.sizeRec') ?_)
  refine (HRO.out W6).mono ?_
  rintro e W7 ⟨rfl, hb⟩
  clear yz hrg
  have HB7 := hid (blw_trans HB6.out hb)
  have HX7 := hid (HX6.out.later hb)
  have HV7 := hid (HV6.out.later hb)
  clear hb HB6 HX6 HV6
  have yz := HX7.out.lt
  have HR2 : Hid (R = (!(K.lead && K.try_) && suitsK K && (K.up || mayDown K))) := by show R = _; rw [HR.out, k0, k1, k2, k3, k4, k5, k6, k7, k8]; rfl
  clear HR k0 k1 k2 k3 k4 k5 k6 k7 k8
  have y2 := HX7.out.get 2 (.bool K.up) (by rw [HC.out]; rfl)
  cases kl : K.lead
  · cases kt : K.try_
    · have HR3 : Hid (R = (quietS K && (K.up || mayDown K))) := by show R = _; rw [HR2.out, kl, kt]; simp only [suitsK, kl, kt]; rfl
      have hv : roleV K = .iface 137 (.agg #[]) := by unfold roleV; rw [kl, kt]; rfl
      rw [hv]
      clear HR2 hv kl kt
      have HM := methQuiet
      have hrg := HX7.out.at_
      go_wp2_with (refine load_mid_g (by kernel_rfl) 52 _ rfl w.heap.size 0 rfl cs _ hrg Try.underlying52 rfl (by rw [HC.out, RrC_len]; exact Try.sizeRec') ?_)
      refine (HQU.out W7).mono ?_
      rintro e W8 ⟨rfl, hb⟩
      clear yz hrg y2
      have HB8 := hid (blw_trans HB7.out hb)
      have HX8 := hid (HX7.out.later hb)
      have HV8 := hid (HV7.out.later hb)
      clear hb HB7 HX7 HV7
      have yz := HX8.out.lt
      have y2 := HX8.out.get 2 (.bool K.up) (by rw [HC.out]; rfl)
      cases ks : quietS K
      · have HE : Hid (R = false) := by show R = _; rw [HR3.out, ks]; rfl
        clear HR3
        go_wp2
        go_ret
        exact ⟨Pl.ret_bool HE.out.symm, HB8.out⟩
      cases ku : K.up
      · rw [ku] at y2
        have HE : Hid (R = mayDown K) := by show R = _; rw [HR3.out, ks, ku]; rfl
        clear HR3 ku
        have hrg := HX8.out.at_
        go_wp2_with (refine load_mid_g (by kernel_rfl) 52 _ rfl w.heap.size 0 rfl cs _ hrg Try.underlying52 rfl (by rw [HC.out, RrC_len]; exact Try.sizeRec') ?_)
        refine (HMD.out W8).mono ?_
        rintro e W9 ⟨rfl, hb⟩
        have HB9 := hid (blw_trans HB8.out hb)
        clear yz hrg y2 hb
        go_wp2
        go_ret
        exact ⟨Pl.ret_bool HE.out.symm, HB9.out⟩
      · rw [ku] at y2
        have HE : Hid (R = true) := by show R = _; rw [HR3.out, ks, ku]; rfl
        clear HR3 ku
        go_wp2
        go_ret
        exact ⟨Pl.ret_bool HE.out.symm, HB8.out⟩
    · have HR3 : Hid (R = (triesS K && (K.up || mayDown K))) := by show R = _; rw [HR2.out, kl, kt]; simp only [suitsK, kl, kt]; rfl
      have hv : roleV K = .iface 136 (.agg #[]) := by unfold roleV; rw [kl, kt]; rfl
      rw [hv]
      clear HR2 hv kl kt
      have HM := methTries
      have hrg := HX7.out.at_
      go_wp2_with (refine load_mid_g (by kernel_rfl) 52 _ rfl w.heap.size 0 rfl cs _ hrg Try.underlying52 rfl (by rw [HC.out, RrC_len]; exact Try.sizeRec') ?_)
      refine (HTR.out W7).mono ?_
      rintro e W8 ⟨rfl, hb⟩
      clear yz hrg y2
      have HB8 := hid (blw_trans HB7.out hb)
      have HX8 := hid (HX7.out.later hb)
      have HV8 := hid (HV7.out.later hb)
      clear hb HB7 HX7 HV7
      have yz := HX8.out.lt
      have y2 := HX8.out.get 2 (.bool K.up) (by rw [HC.out]; rfl)
      cases ks : triesS K
      · have HE : Hid (R = false) := by show R = _; rw [HR3.out, ks]; rfl
        clear HR3
        go_wp2
        go_ret
        exact ⟨Pl.ret_bool HE.out.symm, HB8.out⟩
      cases ku : K.up
      · rw [ku] at y2
        have HE : Hid (R = mayDown K) := by show R = _; rw [HR3.out, ks, ku]; rfl
        clear HR3 ku
        have hrg := HX8.out.at_
        go_wp2_with (refine load_mid_g (by kernel_rfl) 52 _ rfl w.heap.size 0 rfl cs _ hrg Try.underlying52 rfl (by rw [HC.out, RrC_len]; exact Try.sizeRec') ?_)
        refine (HMD.out W8).mono ?_
        rintro e W9 ⟨rfl, hb⟩
        have HB9 := hid (blw_trans HB8.out hb)
        clear yz hrg y2 hb
        go_wp2
        go_ret
        exact ⟨Pl.ret_bool HE.out.symm, HB9.out⟩
      · rw [ku] at y2
        have HE : Hid (R = true) := by show R = _; rw [HR3.out, ks, ku]; rfl
        clear HR3 ku
        go_wp2
        go_ret
        exact ⟨Pl.ret_bool HE.out.symm, HB8.out⟩
  · cases kt : K.try_
    · have HR3 : Hid (R = (leadsS K && (K.up || mayDown K))) := by show R = _; rw [HR2.out, kl, kt]; simp only [suitsK, kl, kt]; rfl
      have hv : roleV K = .iface 135 (.agg #[]) := by unfold roleV; rw [kl, kt]; rfl
      rw [hv]
      clear HR2 hv kl kt
      have HM := methLeads
      have hrg := HX7.out.at_
      go_wp2_with (refine load_mid_g (by kernel_rfl) 52 _ rfl w.heap.size 0 rfl cs _ hrg Try.underlying52 rfl (by rw [HC.out, RrC_len]; exact Try.sizeRec') ?_)
      refine (HLE.out W7).mono ?_
      rintro e W8 ⟨rfl, hb⟩
      clear yz hrg y2
      have HB8 := hid (blw_trans HB7.out hb)
      have HX8 := hid (HX7.out.later hb)
      have HV8 := hid (HV7.out.later hb)
      clear hb HB7 HX7 HV7
      have yz := HX8.out.lt
      have y2 := HX8.out.get 2 (.bool K.up) (by rw [HC.out]; rfl)
      cases ks : leadsS K
      · have HE : Hid (R = false) := by show R = _; rw [HR3.out, ks]; rfl
        clear HR3
        go_wp2
        go_ret
        exact ⟨Pl.ret_bool HE.out.symm, HB8.out⟩
      cases ku : K.up
      · rw [ku] at y2
        have HE : Hid (R = mayDown K) := by show R = _; rw [HR3.out, ks, ku]; rfl
        clear HR3 ku
        have hrg := HX8.out.at_
        go_wp2_with (refine load_mid_g (by kernel_rfl) 52 _ rfl w.heap.size 0 rfl cs _ hrg Try.underlying52 rfl (by rw [HC.out, RrC_len]; exact Try.sizeRec') ?_)
        refine (HMD.out W8).mono ?_
        rintro e W9 ⟨rfl, hb⟩
        have HB9 := hid (blw_trans HB8.out hb)
        clear yz hrg y2 hb
        go_wp2
        go_ret
        exact ⟨Pl.ret_bool HE.out.symm, HB9.out⟩
      · rw [ku] at y2
        have HE : Hid (R = true) := by show R = _; rw [HR3.out, ks, ku]; rfl
        clear HR3 ku
        go_wp2
        go_ret
        exact ⟨Pl.ret_bool HE.out.symm, HB8.out⟩
    · have HE : Hid (R = false) := by show R = _; rw [HR2.out, kl, kt]; rfl
      clear HR2
      go_wp2
      go_ret
      exact ⟨Pl.ret_bool HE.out.symm, HB7.out⟩

theorem recValidI (K : Rr) (b0 b1 b2 b3 b4 b5 b6 : Nat) (w : World) (h : RrIn w b0 b1 b2 b3 b4 b5 b6 K) :
    Calls Try.prog 25 #[.agg #[.int .i64 K.num, .int .i64 K.of_, .bool K.up, .int .i64 K.safe.prom, .int .i64 K.safe.known, .slice (some ⟨b0, 0, none⟩) K.safe.slots.length K.safe.slots.length, .int .i64 K.disk.prom, .int .i64 K.disk.known, .slice (some ⟨b1, 0, none⟩) K.disk.slots.length K.disk.slots.length, .slice (some ⟨b2, 0, none⟩) K.held.length K.held.length, .slice (some ⟨b3, 0, none⟩) K.wish.length K.wish.length, .bool K.lead, .bool K.try_, .int .i64 K.bal, .slice (some ⟨b4, 0, none⟩) K.yes.length K.yes.length, .slice (some ⟨b5, 0, none⟩) K.best.length K.best.length, .slice (some ⟨b6, 0, none⟩) K.acks.length K.acks.length, .int .i64 K.heard]] w fun e w' => e = .returned (.bool (recOk K)) ∧ Below w.heap.size w w' :=
  recValidV K _ _ _ _ _ _ _ _ _ _ _ _ _ _ _ rfl w h.v (Nat.le_refl _) (Nat.le_refl _) (Nat.le_refl _)

end Go.Proofs.Ytcefgacmagobnaa
