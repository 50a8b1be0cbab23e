/-
  The sea: the arms of l17Sea that call; no such kind.
-/
import Derived.Test.YtclagbakddkjcaaGreatSeJ
namespace Go.Proofs.YtclagbakddkjcaaGreat
open Go.RowKit Go.Deep

theorem getD_all {α : Type} (d : α) {p : α → Prop} (l : List α) (h : ∀ x ∈ l, p x) : ∀ i, i < l.length → p (l.getD i d) := fun i hi => by
  have e : l.getD i d = l[i] := by simp [hi]
  rw [e]
  exact h _ (List.getElem_mem hi)
theorem all_getD {α : Type} (d : α) {p : α → Prop} (l : List α) (h : ∀ i, i < l.length → p (l.getD i d)) : ∀ x ∈ l, p x := fun x hx => by
  obtain ⟨i, hi, e⟩ := List.getElem_of_mem hx
  have := h i hi
  rw [show l.getD i d = l[i] from by simp [hi], e] at this
  exact this
theorem wish_sized {l : List Sv} (h : ∀ i, i < l.length → (l.getD i Sv.none).sized) {s : Sv} (hs : s.nm.size ≤ maxLen) (v : Int) : ∀ i, i < (wishOf l s v).length → ((wishOf l s v).getD i Sv.none).sized := by
  refine getD_all _ (p := Sv.sized) _ ?_
  have a := all_getD _ (p := Sv.sized) _ h
  intro x hx
  unfold wishOf at hx
  split at hx
  · simp only [List.mem_append, List.mem_singleton] at hx
    rcases hx with (hx | hx) | hx
    · exact a x (List.mem_of_mem_take hx)
    · subst hx; exact hs
    · exact a x (List.mem_of_mem_drop hx)
  · simp only [List.mem_append, List.mem_singleton] at hx
    rcases hx with (hx | hx) | hx
    · exact a x (List.mem_of_mem_take hx)
    · subst hx; exact hs
    · exact a x (List.mem_of_mem_drop hx)
theorem wish_len (l : List Sv) (s : Sv) (v : Int) : (wishOf l s v).length ≤ l.length + 1 + l.length := by
  unfold wishOf
  split <;> (simp only [List.length_append, List.length_take, List.length_drop, List.length_singleton]; omega)
theorem raise_sized {l : List Bt} (h : ∀ i, i < l.length → (l.getD i Bt.none).sized) {nm : ByteArray} (hs : nm.size ≤ maxLen) (dr : Bool) : ∀ i, i < (raiseOf l nm dr).length → ((raiseOf l nm dr).getD i Bt.none).sized := by
  refine getD_all _ (p := Bt.sized) _ ?_
  have a := all_getD _ (p := Bt.sized) _ h
  intro x hx
  unfold raiseOf at hx
  split at hx
  · simp only [List.mem_append, List.mem_singleton] at hx
    rcases hx with (hx | hx) | hx
    · exact a x (List.mem_of_mem_take hx)
    · subst hx; exact hs
    · exact a x (List.mem_of_mem_drop hx)
  · simp only [List.mem_append, List.mem_singleton] at hx
    rcases hx with (hx | hx) | hx
    · exact a x (List.mem_of_mem_take hx)
    · subst hx; exact hs
    · exact a x (List.mem_of_mem_drop hx)
theorem raise_len (l : List Bt) (nm : ByteArray) (dr : Bool) : (raiseOf l nm dr).length ≤ l.length + 1 + l.length := by
  unfold raiseOf
  split <;> (simp only [List.length_append, List.length_take, List.length_drop, List.length_singleton]; omega)
theorem tick_len (K : SBk) (v : Int) : ∀ i, (tickTo K v i).length ≤ K.cps.length
  | 0 => leftTo_len _ _ _
  | i + 1 => by
    rw [tickTo, tickS]
    split
    · rw [List.length_set]; exact tick_len K v i
    · exact tick_len K v i

set_option maxRecDepth 8000 in
set_option maxHeartbeats 8000000 in
theorem seaTick (K : SBk) (E : Ev) (lo : Nat) (w : World) (hlo : lo ≤ w.heap.size) (v : Int) (HV : Hid (v = K.now + 1)) (p0 p1 p2 : Option Addr) (q0 q1 q2 : Nat) (W : World) (HEW : Hid (EI lo w W E)) (HX : Hid (XI lo w.heap.size W K.now K.svcs K.cps K.bts p0 p1 p2 K.svcs.length K.cps.length K.bts.length q0 q1 q2)) (HL : Hid (K.svcs.length ≤ 100000 ∧ K.bts.length ≤ 100000)) (HZ : Hid (E.sv.nm.size ≤ maxLen ∧ E.nm.size ≤ maxLen)) (hk : E.kind = 1) (u0 u1 u5 u7 u8 u9 u10 u11 u12 u13 u14 u15 u16 u17 u18 u19 u20 u21 u22 u23 u24 u25 u26 u27 u28 u29 u30 u31 u32 u33 u34 u35 u36 u37 u38 u39 u40 u41 u42 u43 u44 u45 u46 u47 u48 u49 u50 u51 u52 u53 u54 u55 u56 u57 u58 u59 u60 u61 u62 u63 u64 u65 u66 u67 u68 u69 u70 u71 u72 u73 u74 u75 u76 u77 u78 u79 u80 u81 u82 u83 u84 u85 u86 u87 u88 u89 u90 u91 u92 u93 u94 u95 u96 u97 u98 u99 u100 u101 u102 u103 u104 u105 u106 u107 u108 u109 u110 u111 u112 u113 u114 u115 u116 u117 u118 u119 u120 u121 u122 u123 u124 u125 u126 u127 u128 u129 u130 u131 u132 u133 u134 u135 u136 u137 u138 u139 u140 u141 u142 u143 u144 u145 u146 u147 u148 u149 u150 u151 u152 u153 u154 u155 u156 u157 u158 u159 u160 : Value) :
    Code.wp Tryz.prog sa2 (SeaQ K E lo w) { tmps := #[u0, u1, .pointer (some ⟨w.heap.size, 0, none⟩), .pointer (some ⟨w.heap.size + 1, 0, none⟩), .pointer (some ⟨w.heap.size + 1 + 1, 0, none⟩), u5, .int .i64 v, u7, u8, u9, u10, u11, u12, u13, u14, u15, u16, u17, u18, u19, u20, u21, u22, u23, u24, u25, u26, u27, u28, u29, u30, u31, u32, u33, u34, u35, u36, u37, u38, u39, u40, u41, u42, u43, u44, u45, u46, u47, u48, u49, u50, u51, u52, u53, u54, u55, u56, u57, u58, u59, u60, u61, u62, u63, u64, u65, u66, u67, u68, u69, u70, u71, u72, u73, u74, u75, u76, u77, u78, u79, u80, u81, u82, u83, u84, u85, u86, u87, u88, u89, u90, u91, u92, u93, u94, u95, u96, u97, u98, u99, u100, u101, u102, u103, u104, u105, u106, u107, u108, u109, u110, u111, u112, u113, u114, u115, u116, u117, u118, u119, u120, u121, u122, u123, u124, u125, u126, u127, u128, u129, u130, u131, u132, u133, u134, u135, u136, u137, u138, u139, u140, u141, u142, u143, u144, u145, u146, u147, u148, u149, u150, u151, u152, u153, u154, u155, u156, u157, u158, u159, u160], defers := [] } W := by
  have hun := And.intro HV (And.intro HL HZ)
  clear hun
  unfold SeaQ
  rw [sa2_3]
  simp only [sa2, sa1, sa0, Tryz.f20, Option.getD_some, sfst_seq, ssnd_seq]
  have ez : w.heap.size + 1 < W.heap.size := lt_heap HEW.out.ev
  have e0 : W.cell? ⟨w.heap.size + 1, 0, none⟩ = some (.int .i64 E.kind) := HEW.out.at_ 0 _ rfl
  obtain ⟨yz, y0, y1, y2, y3⟩ := HX.out.at_
  rw [hk] at e0
  have hm := HX.out.m1
  go_wp2_with fail
  refine (l17TickS K p0 p1 p2 q0 q1 q2 v W HX.out.v hm).mono ?_
  rintro e W1 ⟨⟨a, c, rfl, hO, hzs⟩, hb⟩
  clear ez e0 yz y0 y1 y2 y3
  obtain ⟨T, hT⟩ : ∃ T, T = tickOf K v := ⟨_, rfl⟩
  have HTL : Hid (T.length ≤ 1048576) := by show _ ≤ _; rw [hT]; exact Nat.le_trans (tick_len K v _) hm
  have HTT := hid hT
  rw [← hT] at hO hzs ⊢
  have HO := hid hO
  have HZS := hid hzs
  clear hO hzs hT hm
  have hbx := (hb.block _ (lt_heap HX.out.bx)).trans HX.out.bx
  have OB : OwnBlk W1 w.heap.size 37 4 := ⟨_, hbx, rfl⟩
  obtain ⟨W2, hW2⟩ : ∃ W2, W2 = (((W1.setCell ⟨w.heap.size, 0, none⟩ (.int .i64 K.now)).setCell ⟨w.heap.size, 1, none⟩ (.slice p0 K.svcs.length q0)).setCell ⟨w.heap.size, 2, none⟩ (.slice a T.length c)).setCell ⟨w.heap.size, 3, none⟩ (.slice p2 K.bts.length q2) := ⟨_, rfl⟩
  have HE2 : Hid (EI lo w W2 E) := by show EI _ _ _ _; rw [hW2]; exact (HEW.out.later hlo hb).bk4 hlo _ _ _ _
  have HX2 : Hid (XI lo w.heap.size W2 K.now K.svcs T K.bts p0 a p2 K.svcs.length T.length K.bts.length q0 c q2) := by
    show XI _ _ _ _ _ _ _ _ _ _ _ _ _ _ _ _
    rw [hW2]
    refine ⟨bk4 hbx _ _ _ _, owns_bk4 (owns_on HX.out.o0 hb) hbx t_sk _ _ _ _, owns_bk4 (owns_lo HO.out (by have := HEW.out.bel.size; omega)) hbx (fun e => t_kc e.symm) _ _ _ _, owns_bk4 (owns_on HX.out.o2 hb) hbx t_bk _ _ _ _, rfl, rfl, rfl, HX.out.z0, HZS.out, HX.out.z2, HX.out.m0, HTL.out, HX.out.m2⟩
  have HR : Hid (seaC K E = 0 ∧ seaK K E = ⟨v, K.svcs, T, K.bts⟩) := by
    show _ ∧ _
    rw [HTT.out, HV.out]
    exact ⟨by unfold seaC; rw [hk]; rfl, by unfold seaK; rw [hk]; rfl⟩
  have hz := OB.lt
  have hfz := OB.frozen
  obtain ⟨r0, k0⟩ := OB.cell 0 (by omega)
  obtain ⟨r1, k1⟩ := OB.cell 1 (by omega)
  obtain ⟨r2, k2⟩ := OB.cell 2 (by omega)
  obtain ⟨r3, k3⟩ := OB.cell 3 (by omega)
  clear hbx OB hb
  go_wp2
  rw [← hW2]
  clear hW2
  exact sea3 K E lo w hlo v K.now K.svcs T K.bts p0 a p2 K.svcs.length T.length K.bts.length q0 c q2 W2 HE2 HX2 HR _ _ _ _ _ _ _ _ _ _ _ _ _ _ _ _ _ _ _ _ _ _ _ _ _ _ _ _ _ _ _ _ _ _ _ _ _ _ _ _ _ _ _ _ _ _ _ _ _ _ _ _ _ _ _ _ _ _ _ _ _ _ _ _ _ _ _ _ _ _ _ _ _ _ _ _ _ _ _ _ _ _ _ _ _ _ _ _ _ _ _ _ _ _ _ _ _ _ _ _ _ _ _ _ _ _ _ _ _ _ _ _ _ _ _ _ _ _ _ _ _ _ _ _ _ _ _ _ _ _ _ _ _ _ _ _ _ _ _ _ _ _ _ _ _ _ _ _ _ _ _ _ _ _ _ _ _ 

set_option maxRecDepth 8000 in
set_option maxHeartbeats 8000000 in
theorem seaWish (K : SBk) (E : Ev) (lo : Nat) (w : World) (hlo : lo ≤ w.heap.size) (v : Int) (HV : Hid (v = K.now + 1)) (p0 p1 p2 : Option Addr) (q0 q1 q2 : Nat) (W : World) (HEW : Hid (EI lo w W E)) (HX : Hid (XI lo w.heap.size W K.now K.svcs K.cps K.bts p0 p1 p2 K.svcs.length K.cps.length K.bts.length q0 q1 q2)) (HL : Hid (K.svcs.length ≤ 100000 ∧ K.bts.length ≤ 100000)) (HZ : Hid (E.sv.nm.size ≤ maxLen ∧ E.nm.size ≤ maxLen)) (hk : E.kind = 2) (u0 u1 u5 u7 u8 u9 u10 u11 u12 u13 u14 u15 u16 u17 u18 u19 u20 u21 u22 u23 u24 u25 u26 u27 u28 u29 u30 u31 u32 u33 u34 u35 u36 u37 u38 u39 u40 u41 u42 u43 u44 u45 u46 u47 u48 u49 u50 u51 u52 u53 u54 u55 u56 u57 u58 u59 u60 u61 u62 u63 u64 u65 u66 u67 u68 u69 u70 u71 u72 u73 u74 u75 u76 u77 u78 u79 u80 u81 u82 u83 u84 u85 u86 u87 u88 u89 u90 u91 u92 u93 u94 u95 u96 u97 u98 u99 u100 u101 u102 u103 u104 u105 u106 u107 u108 u109 u110 u111 u112 u113 u114 u115 u116 u117 u118 u119 u120 u121 u122 u123 u124 u125 u126 u127 u128 u129 u130 u131 u132 u133 u134 u135 u136 u137 u138 u139 u140 u141 u142 u143 u144 u145 u146 u147 u148 u149 u150 u151 u152 u153 u154 u155 u156 u157 u158 u159 u160 : Value) :
    Code.wp Tryz.prog sa2 (SeaQ K E lo w) { tmps := #[u0, u1, .pointer (some ⟨w.heap.size, 0, none⟩), .pointer (some ⟨w.heap.size + 1, 0, none⟩), .pointer (some ⟨w.heap.size + 1 + 1, 0, none⟩), u5, .int .i64 v, u7, u8, u9, u10, u11, u12, u13, u14, u15, u16, u17, u18, u19, u20, u21, u22, u23, u24, u25, u26, u27, u28, u29, u30, u31, u32, u33, u34, u35, u36, u37, u38, u39, u40, u41, u42, u43, u44, u45, u46, u47, u48, u49, u50, u51, u52, u53, u54, u55, u56, u57, u58, u59, u60, u61, u62, u63, u64, u65, u66, u67, u68, u69, u70, u71, u72, u73, u74, u75, u76, u77, u78, u79, u80, u81, u82, u83, u84, u85, u86, u87, u88, u89, u90, u91, u92, u93, u94, u95, u96, u97, u98, u99, u100, u101, u102, u103, u104, u105, u106, u107, u108, u109, u110, u111, u112, u113, u114, u115, u116, u117, u118, u119, u120, u121, u122, u123, u124, u125, u126, u127, u128, u129, u130, u131, u132, u133, u134, u135, u136, u137, u138, u139, u140, u141, u142, u143, u144, u145, u146, u147, u148, u149, u150, u151, u152, u153, u154, u155, u156, u157, u158, u159, u160], defers := [] } W := by
  have hun := And.intro HV (And.intro HL HZ)
  clear hun
  unfold SeaQ
  rw [sa2_3]
  simp only [sa2, sa1, sa0, Tryz.f20, Option.getD_some, sfst_seq, ssnd_seq]
  have ez : w.heap.size + 1 < W.heap.size := lt_heap HEW.out.ev
  have e0 : W.cell? ⟨w.heap.size + 1, 0, none⟩ = some (.int .i64 E.kind) := HEW.out.at_ 0 _ rfl
  have e1 : W.cell? ⟨w.heap.size + 1, 1, none⟩ = some (.string E.sv.nm) := HEW.out.at_ 1 _ rfl
  have e2 : W.cell? ⟨w.heap.size + 1, 2, none⟩ = some (.int .i64 E.sv.ver) := HEW.out.at_ 2 _ rfl
  have e3 : W.cell? ⟨w.heap.size + 1, 3, none⟩ = some (.bool E.sv.gone) := HEW.out.at_ 3 _ rfl
  have e4 : W.cell? ⟨w.heap.size + 1, 4, none⟩ = some (.int .i64 E.sv.image) := HEW.out.at_ 4 _ rfl
  have e5 : W.cell? ⟨w.heap.size + 1, 5, none⟩ = some (.int .i64 E.sv.want) := HEW.out.at_ 5 _ rfl
  have e6 : W.cell? ⟨w.heap.size + 1, 6, none⟩ = some (.int .i64 E.sv.down) := HEW.out.at_ 6 _ rfl
  have e7 : W.cell? ⟨w.heap.size + 1, 7, none⟩ = some (.int .i64 E.sv.over) := HEW.out.at_ 7 _ rfl
  have e8 : W.cell? ⟨w.heap.size + 1, 8, none⟩ = some (.int .i64 E.sv.next) := HEW.out.at_ 8 _ rfl
  have e9 : W.cell? ⟨w.heap.size + 1, 9, none⟩ = some (.int .i64 E.sv.per) := HEW.out.at_ 9 _ rfl
  have e10 : W.cell? ⟨w.heap.size + 1, 10, none⟩ = some (.int .i64 E.sv.least) := HEW.out.at_ 10 _ rfl
  have e11 : W.cell? ⟨w.heap.size + 1, 11, none⟩ = some (.int .i64 E.sv.most) := HEW.out.at_ 11 _ rfl
  have e12 : W.cell? ⟨w.heap.size + 1, 12, none⟩ = some (.int .i64 E.sv.load) := HEW.out.at_ 12 _ rfl
  have e13 : W.cell? ⟨w.heap.size + 1, 13, none⟩ = some (.int .i64 E.sv.cool) := HEW.out.at_ 13 _ rfl
  obtain ⟨yz, y0, y1, y2, y3⟩ := HX.out.at_
  rw [hk] at e0
  go_wp2_with fail
  refine (l17WishS K.now p1 p2 K.cps.length K.bts.length q1 q2 K.svcs p0 q0 lo E.sv v W HX.out.o0 HL.out.1).mono ?_
  rintro e W1 ⟨⟨a, c, rfl, hO⟩, hb⟩
  clear ez e0 e1 e2 e3 e4 e5 e6 e7 e8 e9 e10 e11 e12 e13 yz y0 y1 y2 y3
  obtain ⟨T, hT⟩ : ∃ T, T = wishOf K.svcs E.sv v := ⟨_, rfl⟩
  have HTL : Hid (T.length ≤ 1048576) := by show _ ≤ _; rw [hT]; have := wish_len K.svcs E.sv v; have := HL.out.1; omega
  have HZS : Hid (∀ i, i < T.length → (T.getD i Sv.none).sized) := by rw [hT]; exact wish_sized HX.out.z0 HZ.out.1 v
  have HTT := hid hT
  rw [← hT] at hO ⊢
  have HO := hid hO
  clear hO hT
  have hbx := (hb.block _ (lt_heap HX.out.bx)).trans HX.out.bx
  have OB : OwnBlk W1 w.heap.size 37 4 := ⟨_, hbx, rfl⟩
  obtain ⟨W2, hW2⟩ : ∃ W2, W2 = (((W1.setCell ⟨w.heap.size, 0, none⟩ (.int .i64 K.now)).setCell ⟨w.heap.size, 1, none⟩ (.slice a T.length c)).setCell ⟨w.heap.size, 2, none⟩ (.slice p1 K.cps.length q1)).setCell ⟨w.heap.size, 3, none⟩ (.slice p2 K.bts.length q2) := ⟨_, rfl⟩
  have HE2 : Hid (EI lo w W2 E) := by show EI _ _ _ _; rw [hW2]; exact (HEW.out.later hlo hb).bk4 hlo _ _ _ _
  have HX2 : Hid (XI lo w.heap.size W2 K.now T K.cps K.bts a p1 p2 T.length K.cps.length K.bts.length c q1 q2) := by
    show XI _ _ _ _ _ _ _ _ _ _ _ _ _ _ _ _
    rw [hW2]
    refine ⟨bk4 hbx _ _ _ _, owns_bk4 (owns_lo HO.out (by have := HEW.out.bel.size; omega)) hbx t_sk _ _ _ _, owns_bk4 (owns_on HX.out.o1 hb) hbx (fun e => t_kc e.symm) _ _ _ _, owns_bk4 (owns_on HX.out.o2 hb) hbx t_bk _ _ _ _, rfl, rfl, rfl, HZS.out, HX.out.z1, HX.out.z2, HTL.out, HX.out.m1, HX.out.m2⟩
  have HR : Hid (seaC K E = 0 ∧ seaK K E = ⟨v, T, K.cps, K.bts⟩) := by
    show _ ∧ _
    rw [HTT.out, HV.out]
    exact ⟨by unfold seaC; rw [hk]; rfl, by unfold seaK; rw [hk]; rfl⟩
  have hz := OB.lt
  have hfz := OB.frozen
  obtain ⟨r0, k0⟩ := OB.cell 0 (by omega)
  obtain ⟨r1, k1⟩ := OB.cell 1 (by omega)
  obtain ⟨r2, k2⟩ := OB.cell 2 (by omega)
  obtain ⟨r3, k3⟩ := OB.cell 3 (by omega)
  clear hbx OB hb
  go_wp2
  rw [← hW2]
  clear hW2
  exact sea3 K E lo w hlo v K.now T K.cps K.bts a p1 p2 T.length K.cps.length K.bts.length c q1 q2 W2 HE2 HX2 HR _ _ _ _ _ _ _ _ _ _ _ _ _ _ _ _ _ _ _ _ _ _ _ _ _ _ _ _ _ _ _ _ _ _ _ _ _ _ _ _ _ _ _ _ _ _ _ _ _ _ _ _ _ _ _ _ _ _ _ _ _ _ _ _ _ _ _ _ _ _ _ _ _ _ _ _ _ _ _ _ _ _ _ _ _ _ _ _ _ _ _ _ _ _ _ _ _ _ _ _ _ _ _ _ _ _ _ _ _ _ _ _ _ _ _ _ _ _ _ _ _ _ _ _ _ _ _ _ _ _ _ _ _ _ _ _ _ _ _ _ _ _ _ _ _ _ _ _ _ _ _ _ _ _ _ _ _ 

set_option maxRecDepth 8000 in
set_option maxHeartbeats 8000000 in
theorem seaRaise (K : SBk) (E : Ev) (lo : Nat) (w : World) (hlo : lo ≤ w.heap.size) (v : Int) (HV : Hid (v = K.now + 1)) (p0 p1 p2 : Option Addr) (q0 q1 q2 : Nat) (W : World) (HEW : Hid (EI lo w W E)) (HX : Hid (XI lo w.heap.size W K.now K.svcs K.cps K.bts p0 p1 p2 K.svcs.length K.cps.length K.bts.length q0 q1 q2)) (HL : Hid (K.svcs.length ≤ 100000 ∧ K.bts.length ≤ 100000)) (HZ : Hid (E.sv.nm.size ≤ maxLen ∧ E.nm.size ≤ maxLen)) (hk : E.kind = 5) (u0 u1 u5 u7 u8 u9 u10 u11 u12 u13 u14 u15 u16 u17 u18 u19 u20 u21 u22 u23 u24 u25 u26 u27 u28 u29 u30 u31 u32 u33 u34 u35 u36 u37 u38 u39 u40 u41 u42 u43 u44 u45 u46 u47 u48 u49 u50 u51 u52 u53 u54 u55 u56 u57 u58 u59 u60 u61 u62 u63 u64 u65 u66 u67 u68 u69 u70 u71 u72 u73 u74 u75 u76 u77 u78 u79 u80 u81 u82 u83 u84 u85 u86 u87 u88 u89 u90 u91 u92 u93 u94 u95 u96 u97 u98 u99 u100 u101 u102 u103 u104 u105 u106 u107 u108 u109 u110 u111 u112 u113 u114 u115 u116 u117 u118 u119 u120 u121 u122 u123 u124 u125 u126 u127 u128 u129 u130 u131 u132 u133 u134 u135 u136 u137 u138 u139 u140 u141 u142 u143 u144 u145 u146 u147 u148 u149 u150 u151 u152 u153 u154 u155 u156 u157 u158 u159 u160 : Value) :
    Code.wp Tryz.prog sa2 (SeaQ K E lo w) { tmps := #[u0, u1, .pointer (some ⟨w.heap.size, 0, none⟩), .pointer (some ⟨w.heap.size + 1, 0, none⟩), .pointer (some ⟨w.heap.size + 1 + 1, 0, none⟩), u5, .int .i64 v, u7, u8, u9, u10, u11, u12, u13, u14, u15, u16, u17, u18, u19, u20, u21, u22, u23, u24, u25, u26, u27, u28, u29, u30, u31, u32, u33, u34, u35, u36, u37, u38, u39, u40, u41, u42, u43, u44, u45, u46, u47, u48, u49, u50, u51, u52, u53, u54, u55, u56, u57, u58, u59, u60, u61, u62, u63, u64, u65, u66, u67, u68, u69, u70, u71, u72, u73, u74, u75, u76, u77, u78, u79, u80, u81, u82, u83, u84, u85, u86, u87, u88, u89, u90, u91, u92, u93, u94, u95, u96, u97, u98, u99, u100, u101, u102, u103, u104, u105, u106, u107, u108, u109, u110, u111, u112, u113, u114, u115, u116, u117, u118, u119, u120, u121, u122, u123, u124, u125, u126, u127, u128, u129, u130, u131, u132, u133, u134, u135, u136, u137, u138, u139, u140, u141, u142, u143, u144, u145, u146, u147, u148, u149, u150, u151, u152, u153, u154, u155, u156, u157, u158, u159, u160], defers := [] } W := by
  have hun := And.intro HV (And.intro HL HZ)
  clear hun
  unfold SeaQ
  rw [sa2_3]
  simp only [sa2, sa1, sa0, Tryz.f20, Option.getD_some, sfst_seq, ssnd_seq]
  have ez : w.heap.size + 1 < W.heap.size := lt_heap HEW.out.ev
  have e0 : W.cell? ⟨w.heap.size + 1, 0, none⟩ = some (.int .i64 E.kind) := HEW.out.at_ 0 _ rfl
  have e14 : W.cell? ⟨w.heap.size + 1, 14, none⟩ = some (.string E.nm) := HEW.out.at_ 14 _ rfl
  have e16 : W.cell? ⟨w.heap.size + 1, 16, none⟩ = some (.bool E.flag) := HEW.out.at_ 16 _ rfl
  obtain ⟨yz, y0, y1, y2, y3⟩ := HX.out.at_
  rw [hk] at e0
  go_wp2_with fail
  refine (l17RaiseS K.now p0 p1 K.svcs.length K.cps.length q0 q1 K.bts p2 q2 lo E.nm E.flag W HX.out.o2 HL.out.2).mono ?_
  rintro e W1 ⟨⟨a, c, rfl, hO⟩, hb⟩
  clear ez e0 e14 e16 yz y0 y1 y2 y3
  obtain ⟨T, hT⟩ : ∃ T, T = raiseOf K.bts E.nm E.flag := ⟨_, rfl⟩
  have HTL : Hid (T.length ≤ 1048576) := by show _ ≤ _; rw [hT]; have := raise_len K.bts E.nm E.flag; have := HL.out.2; omega
  have HZS : Hid (∀ i, i < T.length → (T.getD i Bt.none).sized) := by rw [hT]; exact raise_sized HX.out.z2 HZ.out.2 _
  have HTT := hid hT
  rw [← hT] at hO ⊢
  have HO := hid hO
  clear hO hT
  have hbx := (hb.block _ (lt_heap HX.out.bx)).trans HX.out.bx
  have OB : OwnBlk W1 w.heap.size 37 4 := ⟨_, hbx, rfl⟩
  obtain ⟨W2, hW2⟩ : ∃ W2, W2 = (((W1.setCell ⟨w.heap.size, 0, none⟩ (.int .i64 K.now)).setCell ⟨w.heap.size, 1, none⟩ (.slice p0 K.svcs.length q0)).setCell ⟨w.heap.size, 2, none⟩ (.slice p1 K.cps.length q1)).setCell ⟨w.heap.size, 3, none⟩ (.slice a T.length c) := ⟨_, rfl⟩
  have HE2 : Hid (EI lo w W2 E) := by show EI _ _ _ _; rw [hW2]; exact (HEW.out.later hlo hb).bk4 hlo _ _ _ _
  have HX2 : Hid (XI lo w.heap.size W2 K.now K.svcs K.cps T p0 p1 a K.svcs.length K.cps.length T.length q0 q1 c) := by
    show XI _ _ _ _ _ _ _ _ _ _ _ _ _ _ _ _
    rw [hW2]
    refine ⟨bk4 hbx _ _ _ _, owns_bk4 (owns_on HX.out.o0 hb) hbx t_sk _ _ _ _, owns_bk4 (owns_on HX.out.o1 hb) hbx (fun e => t_kc e.symm) _ _ _ _, owns_bk4 (owns_lo HO.out (by have := HEW.out.bel.size; omega)) hbx t_bk _ _ _ _, rfl, rfl, rfl, HX.out.z0, HX.out.z1, HZS.out, HX.out.m0, HX.out.m1, HTL.out⟩
  have HR : Hid (seaC K E = 0 ∧ seaK K E = ⟨v, K.svcs, K.cps, T⟩) := by
    show _ ∧ _
    rw [HTT.out, HV.out]
    exact ⟨by unfold seaC; rw [hk]; rfl, by unfold seaK; rw [hk]; rfl⟩
  have hz := OB.lt
  have hfz := OB.frozen
  obtain ⟨r0, k0⟩ := OB.cell 0 (by omega)
  obtain ⟨r1, k1⟩ := OB.cell 1 (by omega)
  obtain ⟨r2, k2⟩ := OB.cell 2 (by omega)
  obtain ⟨r3, k3⟩ := OB.cell 3 (by omega)
  clear hbx OB hb
  go_wp2
  rw [← hW2]
  clear hW2
  exact sea3 K E lo w hlo v K.now K.svcs K.cps T p0 p1 a K.svcs.length K.cps.length T.length q0 q1 c W2 HE2 HX2 HR _ _ _ _ _ _ _ _ _ _ _ _ _ _ _ _ _ _ _ _ _ _ _ _ _ _ _ _ _ _ _ _ _ _ _ _ _ _ _ _ _ _ _ _ _ _ _ _ _ _ _ _ _ _ _ _ _ _ _ _ _ _ _ _ _ _ _ _ _ _ _ _ _ _ _ _ _ _ _ _ _ _ _ _ _ _ _ _ _ _ _ _ _ _ _ _ _ _ _ _ _ _ _ _ _ _ _ _ _ _ _ _ _ _ _ _ _ _ _ _ _ _ _ _ _ _ _ _ _ _ _ _ _ _ _ _ _ _ _ _ _ _ _ _ _ _ _ _ _ _ _ _ _ _ _ _ _ 

set_option maxRecDepth 8000 in
set_option maxHeartbeats 8000000 in
theorem seaElse (K : SBk) (E : Ev) (lo : Nat) (w : World) (hlo : lo ≤ w.heap.size) (v : Int) (HV : Hid (v = K.now + 1)) (p0 p1 p2 : Option Addr) (q0 q1 q2 : Nat) (W : World) (HEW : Hid (EI lo w W E)) (HX : Hid (XI lo w.heap.size W K.now K.svcs K.cps K.bts p0 p1 p2 K.svcs.length K.cps.length K.bts.length q0 q1 q2)) (HL : Hid (K.svcs.length ≤ 100000 ∧ K.bts.length ≤ 100000)) (HZ : Hid (E.sv.nm.size ≤ maxLen ∧ E.nm.size ≤ maxLen)) (h1 : (E.kind == 1) = false) (h2 : (E.kind == 2) = false) (h3 : (E.kind == 3) = false) (h4 : (E.kind == 4) = false) (h5 : (E.kind == 5) = false) (h6 : (E.kind == 6) = false) (HC : Hid (seaC K E = 4)) (u0 u1 u5 u7 u8 u9 u10 u11 u12 u13 u14 u15 u16 u17 u18 u19 u20 u21 u22 u23 u24 u25 u26 u27 u28 u29 u30 u31 u32 u33 u34 u35 u36 u37 u38 u39 u40 u41 u42 u43 u44 u45 u46 u47 u48 u49 u50 u51 u52 u53 u54 u55 u56 u57 u58 u59 u60 u61 u62 u63 u64 u65 u66 u67 u68 u69 u70 u71 u72 u73 u74 u75 u76 u77 u78 u79 u80 u81 u82 u83 u84 u85 u86 u87 u88 u89 u90 u91 u92 u93 u94 u95 u96 u97 u98 u99 u100 u101 u102 u103 u104 u105 u106 u107 u108 u109 u110 u111 u112 u113 u114 u115 u116 u117 u118 u119 u120 u121 u122 u123 u124 u125 u126 u127 u128 u129 u130 u131 u132 u133 u134 u135 u136 u137 u138 u139 u140 u141 u142 u143 u144 u145 u146 u147 u148 u149 u150 u151 u152 u153 u154 u155 u156 u157 u158 u159 u160 : Value) :
    Code.wp Tryz.prog sa2 (SeaQ K E lo w) { tmps := #[u0, u1, .pointer (some ⟨w.heap.size, 0, none⟩), .pointer (some ⟨w.heap.size + 1, 0, none⟩), .pointer (some ⟨w.heap.size + 1 + 1, 0, none⟩), u5, .int .i64 v, u7, u8, u9, u10, u11, u12, u13, u14, u15, u16, u17, u18, u19, u20, u21, u22, u23, u24, u25, u26, u27, u28, u29, u30, u31, u32, u33, u34, u35, u36, u37, u38, u39, u40, u41, u42, u43, u44, u45, u46, u47, u48, u49, u50, u51, u52, u53, u54, u55, u56, u57, u58, u59, u60, u61, u62, u63, u64, u65, u66, u67, u68, u69, u70, u71, u72, u73, u74, u75, u76, u77, u78, u79, u80, u81, u82, u83, u84, u85, u86, u87, u88, u89, u90, u91, u92, u93, u94, u95, u96, u97, u98, u99, u100, u101, u102, u103, u104, u105, u106, u107, u108, u109, u110, u111, u112, u113, u114, u115, u116, u117, u118, u119, u120, u121, u122, u123, u124, u125, u126, u127, u128, u129, u130, u131, u132, u133, u134, u135, u136, u137, u138, u139, u140, u141, u142, u143, u144, u145, u146, u147, u148, u149, u150, u151, u152, u153, u154, u155, u156, u157, u158, u159, u160], defers := [] } W := by
  have hun := And.intro HV (And.intro HL HZ)
  clear hun
  unfold SeaQ
  rw [sa2_3]
  simp only [sa2, sa1, sa0, Tryz.f20, Option.getD_some, sfst_seq, ssnd_seq]
  have ez : w.heap.size + 1 < W.heap.size := lt_heap HEW.out.ev
  have e0 : W.cell? ⟨w.heap.size + 1, 0, none⟩ = some (.int .i64 E.kind) := HEW.out.at_ 0 _ rfl
  obtain ⟨yz, y0, y1, y2, y3⟩ := HX.out.at_
  have HXW := HX
  have hfz := HEW.out.own.frozen
  have hz := HEW.out.own.lt
  obtain ⟨r0, k0⟩ := HEW.out.own.cell 0 (by omega)
  obtain ⟨r1, k1⟩ := HEW.out.own.cell 1 (by omega)
  obtain ⟨r2, k2⟩ := HEW.out.own.cell 2 (by omega)
  obtain ⟨r3, k3⟩ := HEW.out.own.cell 3 (by omega)
  go_wp2
  have p := fun i hi => puts_at 0 [.int .i64 K.now, .slice p0 K.svcs.length q0, .slice p1 K.cps.length q1, .slice p2 K.bts.length q2] W 0 HEW.out.own (by simp) i hi
  have t0 := p 0 (by simp)
  have t1 := p 1 (by simp)
  have t2 := p 2 (by simp)
  have t3 := p 3 (by simp)
  simp only [puts, Nat.add_zero, Nat.zero_add, Nat.reduceAdd, List.getElem?_cons_zero, List.getElem?_cons_succ] at t0 t1 t2 t3
  have hbl := puts_lo 0 (B := w.heap.size + 2) (Nat.le_trans hlo (Nat.le_add_right _ 2)) [.int .i64 K.now, .slice p0 K.svcs.length q0, .slice p1 K.cps.length q1, .slice p2 K.bts.length q2] W 0 HEW.out.bel
  have hkp := puts_keep 0 (B := w.heap.size + 2) (Nat.le_add_right _ 2) [.int .i64 K.now, .slice p0 K.svcs.length q0, .slice p1 K.cps.length q1, .slice p2 K.bts.length q2] W 0 HEW.out.keep
  refine bodyPost_ret (v := .tuple #[.agg #[.int .i64 K.now, .slice p0 K.svcs.length q0, .slice p1 K.cps.length q1, .slice p2 K.bts.length q2], .int .i64 4]) (by simp [results, go_sem, t0, t1, t2, t3]) rfl ⟨?_, hbl, hkp⟩
  have HXF : XI lo w.heap.size (puts W (w.heap.size + 2) 0 0 [.int .i64 K.now, .slice p0 K.svcs.length q0, .slice p1 K.cps.length q1, .slice p2 K.bts.length q2]) K.now K.svcs K.cps K.bts p0 p1 p2 K.svcs.length K.cps.length K.bts.length q0 q1 q2 := by
    have s1 := HXW.out
    have g1 := HEW.out
    have s2 := s1.res g1 0 (.int .i64 K.now)
    have g2 : EI lo w (W.setCell ⟨w.heap.size + 2, 0, none⟩ (.int .i64 K.now)) E := g1.res hlo _ _
    have s3 := s2.res g2 1 (.slice p0 K.svcs.length q0)
    have g3 := g2.res hlo 1 (.slice p0 K.svcs.length q0)
    have s4 := s3.res g3 2 (.slice p1 K.cps.length q1)
    have g4 := g3.res hlo 2 (.slice p1 K.cps.length q1)
    exact s4.res g4 3 (.slice p2 K.bts.length q2)
  have hR : seaR K E = K := by unfold seaR; rw [HC.out, if_neg (by decide)]
  rw [hR, HC.out]
  exact ⟨_, _, _, rfl, HXF.own⟩

end Go.Proofs.YtclagbakddkjcaaGreat
