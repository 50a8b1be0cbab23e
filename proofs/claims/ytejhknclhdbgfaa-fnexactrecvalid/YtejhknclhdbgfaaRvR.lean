/-
  Recorders: roles: the program's.
-/
import Derived.Test.YtejhknclhdbgfaaRvH
namespace Go.Proofs.Ytejhknclhdbgfaa
open Go.RowKit Go.Deep

theorem Try.sizeRec' : (Try.prog.info? 44).map (·.size) = some 18 := by kernel_rfl

set_option maxRecDepth 8000 in
set_option maxHeartbeats 4000000 in
theorem ballotI (K : Rr) (a0 a1 a2 a3 a4 a5 a6 : Option Addr) (c0 c1 c2 c3 c4 c5 c6 : Nat) (cs : List Value) (hcs : cs = RrC K a0 a1 a2 a3 a4 a5 a6 c0 c1 c2 c3 c4 c5 c6) (w : World) :
    Calls Try.prog 111 #[.agg cs.toArray] w fun e w' => e = .returned (.bool (inB K.bal 1 K.disk.prom)) ∧ Below w.heap.size w w' := by
  have HC := hid hcs
  clear hcs
  obtain ⟨wa, hwa⟩ : ∃ wa, wa = w.alloc (.cells cs.toArray 44) := ⟨_, rfl⟩
  have HB : Hid (Below w.heap.size w wa) := by show Below _ _ _; rw [hwa]; exact blw_alloc (Below.refl _ _) _
  have HX : Hid (LBox wa (w.heap.size) cs) := by show LBox _ _ _; rw [hwa]; exact LBox.new w cs.toArray _ _ rfl
  go_enter Try.func111, Try.ntmps111
  go_upto_region 1 with fail
  rw [← hwa]
  clear hwa
  have yz := HX.out.lt
  have y13 := HX.out.get 13 (.int .i64 K.bal) (by rw [HC.out]; rfl)
  have y6 := HX.out.get 6 (.int .i64 K.disk.prom) (by rw [HC.out]; rfl)
  go_wp2_with (go_at_call 36; refine (withinI _ _ _ _).mono ?_; rintro e w' ⟨rfl, rfl⟩)
  go_ret
  exact ⟨rfl, HB.out⟩

def mayDown (K : Rr) : Bool := !K.lead && !K.try_ && ((K.held.length : Int) == 0) && ((K.wish.length : Int) == 0) && (K.heard == 0)

set_option maxRecDepth 8000 in
set_option maxHeartbeats 4000000 in
theorem mayDownI (K : Rr) (a0 a1 a2 a3 a4 a5 a6 : Option Addr) (c0 c1 c2 c3 c4 c5 c6 : Nat) (cs : List Value) (hcs : cs = RrC K a0 a1 a2 a3 a4 a5 a6 c0 c1 c2 c3 c4 c5 c6) (w : World) :
    Calls Try.prog 79 #[.agg cs.toArray] w fun e w' => e = .returned (.bool (mayDown K)) ∧ Below w.heap.size w w' := by
  obtain ⟨R, hR⟩ : ∃ R, R = mayDown K := ⟨_, rfl⟩
  have HR : Hid (R = (!K.lead && !K.try_ && ((K.held.length : Int) == 0) && ((K.wish.length : Int) == 0) && (K.heard == 0))) := hR
  rw [← hR]
  clear hR
  have HC := hid hcs
  clear hcs
  obtain ⟨wa, hwa⟩ : ∃ wa, wa = w.alloc (.cells cs.toArray 44) := ⟨_, rfl⟩
  have HB : Hid (Below w.heap.size w wa) := by show Below _ _ _; rw [hwa]; exact blw_alloc (Below.refl _ _) _
  have HX : Hid (LBox wa (w.heap.size) cs) := by show LBox _ _ _; rw [hwa]; exact LBox.new w cs.toArray _ _ rfl
  go_enter Try.func79, Try.ntmps79
  go_upto_region 1 with fail
  rw [← hwa]
  clear hwa
  have yz := HX.out.lt
  have y11 := HX.out.get 11 (.bool K.lead) (by rw [HC.out]; rfl)
  have y12 := HX.out.get 12 (.bool K.try_) (by rw [HC.out]; rfl)
  have y9 := HX.out.get 9 (.slice a2 K.held.length c2) (by rw [HC.out]; rfl)
  have y10 := HX.out.get 10 (.slice a3 K.wish.length c3) (by rw [HC.out]; rfl)
  have y17 := HX.out.get 17 (.int .i64 K.heard) (by rw [HC.out]; rfl)
  obtain ⟨nh, hnh⟩ : ∃ nh, nh = K.held.length := ⟨_, rfl⟩
  obtain ⟨nw, hnw⟩ : ∃ nw, nw = K.wish.length := ⟨_, rfl⟩
  rw [← hnh, ← hnw] at HR
  rw [← hnh] at y9
  rw [← hnw] at y10
  clear hnh hnw
  cases k0 : K.lead
  · rw [k0] at y11
    cases k1 : K.try_
    · rw [k1] at y12
      cases k2 : ((nh : Int) == 0)
      · have HE : Hid (R = false) := by show R = _; rw [HR.out, k0, k1, k2]; rfl
        clear HR
        go_wp2
        go_ret
        exact ⟨Pl.ret_bool HE.out.symm, HB.out⟩
      cases k3 : ((nw : Int) == 0)
      · have HE : Hid (R = false) := by show R = _; rw [HR.out, k0, k1, k2, k3]; rfl
        clear HR
        go_wp2
        go_ret
        exact ⟨Pl.ret_bool HE.out.symm, HB.out⟩
      cases k4 : (K.heard == 0)
      · have HE : Hid (R = false) := by show R = _; rw [HR.out, k0, k1, k2, k3, k4]; rfl
        clear HR
        go_wp2
        go_ret
        exact ⟨Pl.ret_bool HE.out.symm, HB.out⟩
      · have HE : Hid (R = true) := by show R = _; rw [HR.out, k0, k1, k2, k3, k4]; rfl
        clear HR
        go_wp2
        go_ret
        exact ⟨Pl.ret_bool HE.out.symm, HB.out⟩
    · rw [k1] at y12
      have HE : Hid (R = false) := by show R = _; rw [HR.out, k0, k1]; rfl
      clear HR
      go_wp2
      go_ret
      exact ⟨Pl.ret_bool HE.out.symm, HB.out⟩
  · rw [k0] at y11
    have HE : Hid (R = false) := by show R = _; rw [HR.out, k0]; rfl
    clear HR
    go_wp2
    go_ret
    exact ⟨Pl.ret_bool HE.out.symm, HB.out⟩

/-- The role. -/
def roleV (K : Rr) : Value := if K.lead then (if K.try_ then .nilIface else .iface 120 (.agg #[])) else if K.try_ then .iface 121 (.agg #[]) else .iface 122 (.agg #[])

set_option maxRecDepth 8000 in
set_option maxHeartbeats 4000000 in
theorem roleOfI (K : Rr) (a0 a1 a2 a3 a4 a5 a6 : Option Addr) (c0 c1 c2 c3 c4 c5 c6 : Nat) (cs : List Value) (hcs : cs = RrC K a0 a1 a2 a3 a4 a5 a6 c0 c1 c2 c3 c4 c5 c6) (w : World) :
    Calls Try.prog 78 #[.agg cs.toArray] w fun e w' => e = .returned (.tuple #[roleV K, .bool (!(K.lead && K.try_))]) ∧ Below w.heap.size w w' := by
  obtain ⟨R, hR⟩ : ∃ R, R = roleV K := ⟨_, rfl⟩
  obtain ⟨B, hB⟩ : ∃ B, B = !(K.lead && K.try_) := ⟨_, rfl⟩
  have HR : Hid (R = roleV K) := hR
  have HQ : Hid (B = !(K.lead && K.try_)) := hB
  rw [← hR, ← hB]
  clear hR hB
  have HC := hid hcs
  clear hcs
  obtain ⟨wa, hwa⟩ : ∃ wa, wa = w.alloc (.cells cs.toArray 44) := ⟨_, rfl⟩
  have HB : Hid (Below w.heap.size w wa) := by show Below _ _ _; rw [hwa]; exact blw_alloc (Below.refl _ _) _
  have HX : Hid (LBox wa (w.heap.size) cs) := by show LBox _ _ _; rw [hwa]; exact LBox.new w cs.toArray _ _ rfl
  go_enter Try.func78, Try.ntmps78
  go_upto_region 1 with fail
  rw [← hwa]
  clear hwa
  have yz := HX.out.lt
  have y11 := HX.out.get 11 (.bool K.lead) (by rw [HC.out]; rfl)
  have y12 := HX.out.get 12 (.bool K.try_) (by rw [HC.out]; rfl)
  cases k0 : K.lead <;> cases k1 : K.try_
  all_goals
    have HE : Hid (R = _) := HR.out.trans (by unfold roleV; rw [k0, k1])
    have HF : Hid (B = _) := HQ.out.trans (by rw [k0, k1])
    clear HR HQ
    rw [k0] at y11
    rw [k1] at y12
    clear k0 k1
    go_wp2
    go_ret2
    exact ⟨by rw [HE.out, HF.out]; rfl, HB.out⟩

theorem methLeads (w : World) : (method 243 120 (.agg #[]) "loop.example/wharfdesk/impl.suits").run Try.prog w = .ok (110, .agg #[]) w := by kernel_rfl
theorem methTries (w : World) : (method 243 121 (.agg #[]) "loop.example/wharfdesk/impl.suits").run Try.prog w = .ok (112, .agg #[]) w := by kernel_rfl
theorem methQuiet (w : World) : (method 243 122 (.agg #[]) "loop.example/wharfdesk/impl.suits").run Try.prog w = .ok (113, .agg #[]) w := by kernel_rfl

def leadsS (K : Rr) : Bool := inB K.bal 1 K.disk.prom && ((K.yes.length : Int) == 0) && ((K.best.length : Int) == 0)

set_option maxRecDepth 8000 in
set_option maxHeartbeats 4000000 in
theorem leadsI (K : Rr) (a0 a1 a2 a3 a4 a5 a6 : Option Addr) (c0 c1 c2 c3 c4 c5 c6 : Nat) (cs : List Value) (hcs : cs = RrC K a0 a1 a2 a3 a4 a5 a6 c0 c1 c2 c3 c4 c5 c6) (w : World) :
    Calls Try.prog 110 #[.agg #[], .agg cs.toArray] w fun e w' => e = .returned (.bool (leadsS K)) ∧ Below w.heap.size w w' := by
  obtain ⟨R, hR⟩ : ∃ R, R = leadsS K := ⟨_, rfl⟩
  have HR : Hid (R = (inB K.bal 1 K.disk.prom && ((K.yes.length : Int) == 0) && ((K.best.length : Int) == 0))) := hR
  rw [← hR]
  clear hR
  have HBA := hid (fun W => ballotI K a0 a1 a2 a3 a4 a5 a6 c0 c1 c2 c3 c4 c5 c6 cs hcs W)
  have HC := hid hcs
  clear hcs
  obtain ⟨wa, hwa⟩ : ∃ wa, wa = (w.alloc (.cells #[] 120)).alloc (.cells cs.toArray 44) := ⟨_, rfl⟩
  have HB : Hid (Below w.heap.size w wa) := by show Below _ _ _; rw [hwa]; exact blw_alloc (blw_alloc (Below.refl _ _) _) _
  have HX : Hid (LBox wa (w.heap.size + 1) cs) := by show LBox _ _ _; rw [hwa]; exact LBox.new (w.alloc _) cs.toArray _ _ (by simp)
  go_enter Try.func110, Try.ntmps110
  go_upto_region 1 with fail
  rw [← hwa]
  clear hwa
  have yz := HX.out.lt
  have hrg := HX.out.at_
  go_wp2_with (refine wpList_load_mid rfl 44 _ rfl (w.heap.size + 1) 0 rfl cs _ hrg Try.underlying44 rfl (by rw [HC.out, RrC_len]; exact Try.sizeRec') ?_)
  refine (HBA.out _).mono ?_
  rintro e w2 ⟨rfl, hb⟩
  have HB2 := hid (blw_trans HB.out hb)
  have HX2 := hid (HX.out.later hb)
  clear hb hrg yz HB
  have yz := HX2.out.lt
  have y14 := HX2.out.get 14 (.slice a4 K.yes.length c4) (by rw [HC.out]; rfl)
  have y15 := HX2.out.get 15 (.slice a5 K.best.length c5) (by rw [HC.out]; rfl)
  obtain ⟨ny, hny⟩ : ∃ ny, ny = K.yes.length := ⟨_, rfl⟩
  rw [← hny] at HR y14
  clear hny
  obtain ⟨nb, hnb⟩ : ∃ nb, nb = K.best.length := ⟨_, rfl⟩
  rw [← hnb] at HR y15
  clear hnb
  cases k0 : inB K.bal 1 K.disk.prom
  · have HE : Hid (R = false) := by show R = _; rw [HR.out, k0]; rfl
    clear HR
    go_wp2
    go_ret
    exact ⟨Pl.ret_bool HE.out.symm, HB2.out⟩
  cases k1 : ((ny : Int) == 0)
  · have HE : Hid (R = false) := by show R = _; rw [HR.out, k0, k1]; rfl
    clear HR
    go_wp2
    go_ret
    exact ⟨Pl.ret_bool HE.out.symm, HB2.out⟩
  cases k2 : ((nb : Int) == 0)
  · have HE : Hid (R = false) := by show R = _; rw [HR.out, k0, k1, k2]; rfl
    clear HR
    go_wp2
    go_ret
    exact ⟨Pl.ret_bool HE.out.symm, HB2.out⟩
  have HE : Hid (R = true) := by show R = _; rw [HR.out, k0, k1, k2]; rfl
  clear HR
  go_wp2
  go_ret
  exact ⟨Pl.ret_bool HE.out.symm, HB2.out⟩

def triesS (K : Rr) : Bool := inB K.bal 1 K.disk.prom && ((K.acks.length : Int) == 0)

set_option maxRecDepth 8000 in
set_option maxHeartbeats 4000000 in
theorem triesI (K : Rr) (a0 a1 a2 a3 a4 a5 a6 : Option Addr) (c0 c1 c2 c3 c4 c5 c6 : Nat) (cs : List Value) (hcs : cs = RrC K a0 a1 a2 a3 a4 a5 a6 c0 c1 c2 c3 c4 c5 c6) (w : World) :
    Calls Try.prog 112 #[.agg #[], .agg cs.toArray] w fun e w' => e = .returned (.bool (triesS K)) ∧ Below w.heap.size w w' := by
  obtain ⟨R, hR⟩ : ∃ R, R = triesS K := ⟨_, rfl⟩
  have HR : Hid (R = (inB K.bal 1 K.disk.prom && ((K.acks.length : Int) == 0))) := hR
  rw [← hR]
  clear hR
  have HBA := hid (fun W => ballotI K a0 a1 a2 a3 a4 a5 a6 c0 c1 c2 c3 c4 c5 c6 cs hcs W)
  have HC := hid hcs
  clear hcs
  obtain ⟨wa, hwa⟩ : ∃ wa, wa = (w.alloc (.cells #[] 121)).alloc (.cells cs.toArray 44) := ⟨_, rfl⟩
  have HB : Hid (Below w.heap.size w wa) := by show Below _ _ _; rw [hwa]; exact blw_alloc (blw_alloc (Below.refl _ _) _) _
  have HX : Hid (LBox wa (w.heap.size + 1) cs) := by show LBox _ _ _; rw [hwa]; exact LBox.new (w.alloc _) cs.toArray _ _ (by simp)
  go_enter Try.func112, Try.ntmps112
  go_upto_region 1 with fail
  rw [← hwa]
  clear hwa
  have yz := HX.out.lt
  have hrg := HX.out.at_
  go_wp2_with (refine wpList_load_mid rfl 44 _ rfl (w.heap.size + 1) 0 rfl cs _ hrg Try.underlying44 rfl (by rw [HC.out, RrC_len]; exact Try.sizeRec') ?_)
  refine (HBA.out _).mono ?_
  rintro e w2 ⟨rfl, hb⟩
  have HB2 := hid (blw_trans HB.out hb)
  have HX2 := hid (HX.out.later hb)
  clear hb hrg yz HB
  have yz := HX2.out.lt
  have y16 := HX2.out.get 16 (.slice a6 K.acks.length c6) (by rw [HC.out]; rfl)
  obtain ⟨na, hna⟩ : ∃ na, na = K.acks.length := ⟨_, rfl⟩
  rw [← hna] at HR y16
  clear hna
  cases k0 : inB K.bal 1 K.disk.prom
  · have HE : Hid (R = false) := by show R = _; rw [HR.out, k0]; rfl
    clear HR
    go_wp2
    go_ret
    exact ⟨Pl.ret_bool HE.out.symm, HB2.out⟩
  cases k1 : ((na : Int) == 0)
  · have HE : Hid (R = false) := by show R = _; rw [HR.out, k0, k1]; rfl
    clear HR
    go_wp2
    go_ret
    exact ⟨Pl.ret_bool HE.out.symm, HB2.out⟩
  have HE : Hid (R = true) := by show R = _; rw [HR.out, k0, k1]; rfl
  clear HR
  go_wp2
  go_ret
  exact ⟨Pl.ret_bool HE.out.symm, HB2.out⟩

def quietS (K : Rr) : Bool := (K.bal == 0) && ((K.yes.length : Int) == 0) && ((K.best.length : Int) == 0) && ((K.acks.length : Int) == 0)

set_option maxRecDepth 8000 in
set_option maxHeartbeats 4000000 in
theorem quietI (K : Rr) (a0 a1 a2 a3 a4 a5 a6 : Option Addr) (c0 c1 c2 c3 c4 c5 c6 : Nat) (cs : List Value) (hcs : cs = RrC K a0 a1 a2 a3 a4 a5 a6 c0 c1 c2 c3 c4 c5 c6) (w : World) :
    Calls Try.prog 113 #[.agg #[], .agg cs.toArray] w fun e w' => e = .returned (.bool (quietS K)) ∧ Below w.heap.size w w' := by
  obtain ⟨R, hR⟩ : ∃ R, R = quietS K := ⟨_, rfl⟩
  have HR : Hid (R = ((K.bal == 0) && ((K.yes.length : Int) == 0) && ((K.best.length : Int) == 0) && ((K.acks.length : Int) == 0))) := hR
  rw [← hR]
  clear hR
  have HC := hid hcs
  clear hcs
  obtain ⟨wa, hwa⟩ : ∃ wa, wa = (w.alloc (.cells #[] 122)).alloc (.cells cs.toArray 44) := ⟨_, rfl⟩
  have HB : Hid (Below w.heap.size w wa) := by show Below _ _ _; rw [hwa]; exact blw_alloc (blw_alloc (Below.refl _ _) _) _
  have HX : Hid (LBox wa (w.heap.size + 1) cs) := by show LBox _ _ _; rw [hwa]; exact LBox.new (w.alloc _) cs.toArray _ _ (by simp)
  go_enter Try.func113, Try.ntmps113
  go_upto_region 1 with fail
  rw [← hwa]
  clear hwa
  have yz := HX.out.lt
  have y13 := HX.out.get 13 (.int .i64 K.bal) (by rw [HC.out]; rfl)
  have y14 := HX.out.get 14 (.slice a4 K.yes.length c4) (by rw [HC.out]; rfl)
  have y15 := HX.out.get 15 (.slice a5 K.best.length c5) (by rw [HC.out]; rfl)
  have y16 := HX.out.get 16 (.slice a6 K.acks.length c6) (by rw [HC.out]; rfl)
  obtain ⟨ny, hny⟩ : ∃ ny, ny = K.yes.length := ⟨_, rfl⟩
  rw [← hny] at HR y14
  clear hny
  obtain ⟨nb, hnb⟩ : ∃ nb, nb = K.best.length := ⟨_, rfl⟩
  rw [← hnb] at HR y15
  clear hnb
  obtain ⟨na, hna⟩ : ∃ na, na = K.acks.length := ⟨_, rfl⟩
  rw [← hna] at HR y16
  clear hna
  cases k0 : (K.bal == 0)
  · have HE : Hid (R = false) := by show R = _; rw [HR.out, k0]; rfl
    clear HR
    go_wp2
    go_ret
    exact ⟨Pl.ret_bool HE.out.symm, HB.out⟩
  cases k1 : ((ny : Int) == 0)
  · have HE : Hid (R = false) := by show R = _; rw [HR.out, k0, k1]; rfl
    clear HR
    go_wp2
    go_ret
    exact ⟨Pl.ret_bool HE.out.symm, HB.out⟩
  cases k2 : ((nb : Int) == 0)
  · have HE : Hid (R = false) := by show R = _; rw [HR.out, k0, k1, k2]; rfl
    clear HR
    go_wp2
    go_ret
    exact ⟨Pl.ret_bool HE.out.symm, HB.out⟩
  cases k3 : ((na : Int) == 0)
  · have HE : Hid (R = false) := by show R = _; rw [HR.out, k0, k1, k2, k3]; rfl
    clear HR
    go_wp2
    go_ret
    exact ⟨Pl.ret_bool HE.out.symm, HB.out⟩
  have HE : Hid (R = true) := by show R = _; rw [HR.out, k0, k1, k2, k3]; rfl
  clear HR
  go_wp2
  go_ret
  exact ⟨Pl.ret_bool HE.out.symm, HB.out⟩

end Go.Proofs.Ytejhknclhdbgfaa
