/-
  Stewards: what an act does, by the specification: behind the ends.
-/
import Derived.Test.YtpamkibnahhphaaGreatDoorSaT
namespace Go.Proofs.YtpamkibnahhphaaGreatDoor
open Go.RowKit Go.Deep

theorem ret_of {K : SBk} {X : Ac} (c : Int) (h : acCode K X = c) (hn : c ≠ 0) : applyK K X = K ∧ acCode K X = c := ⟨by unfold applyK; rw [h, if_neg hn], h⟩

theorem t_ks : (36 : TypeId) ≠ 86 := by decide
theorem t_cs : (90 : TypeId) ≠ 86 := by decide
theorem t_bs : (88 : TypeId) ≠ 86 := by decide
theorem XI.setSv {lo px : Nat} {W : World} {now : Int} {sv : List Sv} {cp : List Cp} {bt : List Bt} {p1 p2 : Option Addr} {n0 n1 n2 q0 q1 q2 : Nat} {g : Nat} (h : XI lo px W now sv cp bt (some ⟨g, 0, none⟩) p1 p2 n0 n1 n2 q0 q1 q2) {cur : Array Value} (hg : W.heap[g]? = some (.cells cur 86 (0, 0))) (c k : Nat) (hc : c < sv.length) (hk : k < 13) (x : Value) (m : Sv) (hm : SvC m = (SvC (sv.getD c Sv.none)).set k x) (hz : m.sized) :
    XI lo px (W.setCell ⟨g, c * 13 + k, none⟩ x) now (sv.set c m) cp bt (some ⟨g, 0, none⟩) p1 p2 n0 n1 n2 q0 q1 q2 := by
  refine ⟨heap_else h.bx hg t_ks _ _, ?_, owns_else h.o1 hg t_cs _ _, owns_else h.o2 hg t_bs _ _, by rw [List.length_set]; exact h.l0, h.l1, h.l2, fun i hi => ?_, h.z1, h.z2, h.m0, h.m1, h.m2⟩
  · rw [← flat_set Sv.none SvC 13 SvC_len k hk x sv c m hc hm]
    exact owns_set h.o0 _ _
  · rw [List.length_set] at hi
    by_cases e : c = i
    · subst e
      have : (sv.set c m).getD c Sv.none = m := by simp [hc]
      rw [this]; exact hz
    · have : (sv.set c m).getD i Sv.none = sv.getD i Sv.none := by simp [e]
      rw [this]; exact h.z0 i hi
theorem XI.putSv {lo px : Nat} {W : World} {now : Int} {sv : List Sv} {cp : List Cp} {bt : List Bt} {p1 p2 : Option Addr} {n0 n1 n2 q0 q1 q2 : Nat} {g : Nat} (h : XI lo px W now sv cp bt (some ⟨g, 0, none⟩) p1 p2 n0 n1 n2 q0 q1 q2) {cur : Array Value} (hg : W.heap[g]? = some (.cells cur 86 (0, 0))) (c : Nat) (hc : c < sv.length) (m : Sv) (hz : m.sized) :
    XI lo px (((((((((((((W.setCell ⟨g, c * 13, none⟩ (.string m.nm)).setCell ⟨g, c * 13 + 1, none⟩ (.int .i64 m.ver)).setCell ⟨g, c * 13 + 2, none⟩ (.bool m.gone)).setCell ⟨g, c * 13 + 3, none⟩ (.int .i64 m.image)).setCell ⟨g, c * 13 + 4, none⟩ (.int .i64 m.want)).setCell ⟨g, c * 13 + 5, none⟩ (.int .i64 m.down)).setCell ⟨g, c * 13 + 6, none⟩ (.int .i64 m.over)).setCell ⟨g, c * 13 + 7, none⟩ (.int .i64 m.next)).setCell ⟨g, c * 13 + 8, none⟩ (.int .i64 m.per)).setCell ⟨g, c * 13 + 9, none⟩ (.int .i64 m.least)).setCell ⟨g, c * 13 + 10, none⟩ (.int .i64 m.most)).setCell ⟨g, c * 13 + 11, none⟩ (.int .i64 m.load)).setCell ⟨g, c * 13 + 12, none⟩ (.int .i64 m.cool)) now (sv.set c m) cp bt (some ⟨g, 0, none⟩) p1 p2 n0 n1 n2 q0 q1 q2 := by
  obtain ⟨y, hy⟩ : ∃ y, y = sv.getD c Sv.none := ⟨_, rfl⟩
  have gt : ∀ {m' : Sv}, (sv.set c m').getD c Sv.none = m' := fun {m'} => by simp [hc]
  have h0 := h.setSv hg c 0 hc (by decide) (.string m.nm) ⟨m.nm, y.ver, y.gone, y.image, y.want, y.down, y.over, y.next, y.per, y.least, y.most, y.load, y.cool⟩ (by rw [← hy]; rfl) hz
  have g0 := heap_setCell_same W g (c * 13) _ _ (.string m.nm) hg
  have h1 := h0.setSv g0 c 1 (by rw [List.length_set]; exact hc) (by decide) (.int .i64 m.ver) ⟨m.nm, m.ver, y.gone, y.image, y.want, y.down, y.over, y.next, y.per, y.least, y.most, y.load, y.cool⟩ (by rw [gt]; rfl) hz
  rw [List.set_set] at h1
  have g1 := heap_setCell_same (W.setCell ⟨g, c * 13, none⟩ (.string m.nm)) g (c * 13 + 1) _ _ (.int .i64 m.ver) g0
  have h2 := h1.setSv g1 c 2 (by rw [List.length_set]; exact hc) (by decide) (.bool m.gone) ⟨m.nm, m.ver, m.gone, y.image, y.want, y.down, y.over, y.next, y.per, y.least, y.most, y.load, y.cool⟩ (by rw [gt]; rfl) hz
  rw [List.set_set] at h2
  have g2 := heap_setCell_same ((W.setCell ⟨g, c * 13, none⟩ (.string m.nm)).setCell ⟨g, c * 13 + 1, none⟩ (.int .i64 m.ver)) g (c * 13 + 2) _ _ (.bool m.gone) g1
  have h3 := h2.setSv g2 c 3 (by rw [List.length_set]; exact hc) (by decide) (.int .i64 m.image) ⟨m.nm, m.ver, m.gone, m.image, y.want, y.down, y.over, y.next, y.per, y.least, y.most, y.load, y.cool⟩ (by rw [gt]; rfl) hz
  rw [List.set_set] at h3
  have g3 := heap_setCell_same (((W.setCell ⟨g, c * 13, none⟩ (.string m.nm)).setCell ⟨g, c * 13 + 1, none⟩ (.int .i64 m.ver)).setCell ⟨g, c * 13 + 2, none⟩ (.bool m.gone)) g (c * 13 + 3) _ _ (.int .i64 m.image) g2
  have h4 := h3.setSv g3 c 4 (by rw [List.length_set]; exact hc) (by decide) (.int .i64 m.want) ⟨m.nm, m.ver, m.gone, m.image, m.want, y.down, y.over, y.next, y.per, y.least, y.most, y.load, y.cool⟩ (by rw [gt]; rfl) hz
  rw [List.set_set] at h4
  have g4 := heap_setCell_same ((((W.setCell ⟨g, c * 13, none⟩ (.string m.nm)).setCell ⟨g, c * 13 + 1, none⟩ (.int .i64 m.ver)).setCell ⟨g, c * 13 + 2, none⟩ (.bool m.gone)).setCell ⟨g, c * 13 + 3, none⟩ (.int .i64 m.image)) g (c * 13 + 4) _ _ (.int .i64 m.want) g3
  have h5 := h4.setSv g4 c 5 (by rw [List.length_set]; exact hc) (by decide) (.int .i64 m.down) ⟨m.nm, m.ver, m.gone, m.image, m.want, m.down, y.over, y.next, y.per, y.least, y.most, y.load, y.cool⟩ (by rw [gt]; rfl) hz
  rw [List.set_set] at h5
  have g5 := heap_setCell_same (((((W.setCell ⟨g, c * 13, none⟩ (.string m.nm)).setCell ⟨g, c * 13 + 1, none⟩ (.int .i64 m.ver)).setCell ⟨g, c * 13 + 2, none⟩ (.bool m.gone)).setCell ⟨g, c * 13 + 3, none⟩ (.int .i64 m.image)).setCell ⟨g, c * 13 + 4, none⟩ (.int .i64 m.want)) g (c * 13 + 5) _ _ (.int .i64 m.down) g4
  have h6 := h5.setSv g5 c 6 (by rw [List.length_set]; exact hc) (by decide) (.int .i64 m.over) ⟨m.nm, m.ver, m.gone, m.image, m.want, m.down, m.over, y.next, y.per, y.least, y.most, y.load, y.cool⟩ (by rw [gt]; rfl) hz
  rw [List.set_set] at h6
  have g6 := heap_setCell_same ((((((W.setCell ⟨g, c * 13, none⟩ (.string m.nm)).setCell ⟨g, c * 13 + 1, none⟩ (.int .i64 m.ver)).setCell ⟨g, c * 13 + 2, none⟩ (.bool m.gone)).setCell ⟨g, c * 13 + 3, none⟩ (.int .i64 m.image)).setCell ⟨g, c * 13 + 4, none⟩ (.int .i64 m.want)).setCell ⟨g, c * 13 + 5, none⟩ (.int .i64 m.down)) g (c * 13 + 6) _ _ (.int .i64 m.over) g5
  have h7 := h6.setSv g6 c 7 (by rw [List.length_set]; exact hc) (by decide) (.int .i64 m.next) ⟨m.nm, m.ver, m.gone, m.image, m.want, m.down, m.over, m.next, y.per, y.least, y.most, y.load, y.cool⟩ (by rw [gt]; rfl) hz
  rw [List.set_set] at h7
  have g7 := heap_setCell_same (((((((W.setCell ⟨g, c * 13, none⟩ (.string m.nm)).setCell ⟨g, c * 13 + 1, none⟩ (.int .i64 m.ver)).setCell ⟨g, c * 13 + 2, none⟩ (.bool m.gone)).setCell ⟨g, c * 13 + 3, none⟩ (.int .i64 m.image)).setCell ⟨g, c * 13 + 4, none⟩ (.int .i64 m.want)).setCell ⟨g, c * 13 + 5, none⟩ (.int .i64 m.down)).setCell ⟨g, c * 13 + 6, none⟩ (.int .i64 m.over)) g (c * 13 + 7) _ _ (.int .i64 m.next) g6
  have h8 := h7.setSv g7 c 8 (by rw [List.length_set]; exact hc) (by decide) (.int .i64 m.per) ⟨m.nm, m.ver, m.gone, m.image, m.want, m.down, m.over, m.next, m.per, y.least, y.most, y.load, y.cool⟩ (by rw [gt]; rfl) hz
  rw [List.set_set] at h8
  have g8 := heap_setCell_same ((((((((W.setCell ⟨g, c * 13, none⟩ (.string m.nm)).setCell ⟨g, c * 13 + 1, none⟩ (.int .i64 m.ver)).setCell ⟨g, c * 13 + 2, none⟩ (.bool m.gone)).setCell ⟨g, c * 13 + 3, none⟩ (.int .i64 m.image)).setCell ⟨g, c * 13 + 4, none⟩ (.int .i64 m.want)).setCell ⟨g, c * 13 + 5, none⟩ (.int .i64 m.down)).setCell ⟨g, c * 13 + 6, none⟩ (.int .i64 m.over)).setCell ⟨g, c * 13 + 7, none⟩ (.int .i64 m.next)) g (c * 13 + 8) _ _ (.int .i64 m.per) g7
  have h9 := h8.setSv g8 c 9 (by rw [List.length_set]; exact hc) (by decide) (.int .i64 m.least) ⟨m.nm, m.ver, m.gone, m.image, m.want, m.down, m.over, m.next, m.per, m.least, y.most, y.load, y.cool⟩ (by rw [gt]; rfl) hz
  rw [List.set_set] at h9
  have g9 := heap_setCell_same (((((((((W.setCell ⟨g, c * 13, none⟩ (.string m.nm)).setCell ⟨g, c * 13 + 1, none⟩ (.int .i64 m.ver)).setCell ⟨g, c * 13 + 2, none⟩ (.bool m.gone)).setCell ⟨g, c * 13 + 3, none⟩ (.int .i64 m.image)).setCell ⟨g, c * 13 + 4, none⟩ (.int .i64 m.want)).setCell ⟨g, c * 13 + 5, none⟩ (.int .i64 m.down)).setCell ⟨g, c * 13 + 6, none⟩ (.int .i64 m.over)).setCell ⟨g, c * 13 + 7, none⟩ (.int .i64 m.next)).setCell ⟨g, c * 13 + 8, none⟩ (.int .i64 m.per)) g (c * 13 + 9) _ _ (.int .i64 m.least) g8
  have h10 := h9.setSv g9 c 10 (by rw [List.length_set]; exact hc) (by decide) (.int .i64 m.most) ⟨m.nm, m.ver, m.gone, m.image, m.want, m.down, m.over, m.next, m.per, m.least, m.most, y.load, y.cool⟩ (by rw [gt]; rfl) hz
  rw [List.set_set] at h10
  have g10 := heap_setCell_same ((((((((((W.setCell ⟨g, c * 13, none⟩ (.string m.nm)).setCell ⟨g, c * 13 + 1, none⟩ (.int .i64 m.ver)).setCell ⟨g, c * 13 + 2, none⟩ (.bool m.gone)).setCell ⟨g, c * 13 + 3, none⟩ (.int .i64 m.image)).setCell ⟨g, c * 13 + 4, none⟩ (.int .i64 m.want)).setCell ⟨g, c * 13 + 5, none⟩ (.int .i64 m.down)).setCell ⟨g, c * 13 + 6, none⟩ (.int .i64 m.over)).setCell ⟨g, c * 13 + 7, none⟩ (.int .i64 m.next)).setCell ⟨g, c * 13 + 8, none⟩ (.int .i64 m.per)).setCell ⟨g, c * 13 + 9, none⟩ (.int .i64 m.least)) g (c * 13 + 10) _ _ (.int .i64 m.most) g9
  have h11 := h10.setSv g10 c 11 (by rw [List.length_set]; exact hc) (by decide) (.int .i64 m.load) ⟨m.nm, m.ver, m.gone, m.image, m.want, m.down, m.over, m.next, m.per, m.least, m.most, m.load, y.cool⟩ (by rw [gt]; rfl) hz
  rw [List.set_set] at h11
  have g11 := heap_setCell_same (((((((((((W.setCell ⟨g, c * 13, none⟩ (.string m.nm)).setCell ⟨g, c * 13 + 1, none⟩ (.int .i64 m.ver)).setCell ⟨g, c * 13 + 2, none⟩ (.bool m.gone)).setCell ⟨g, c * 13 + 3, none⟩ (.int .i64 m.image)).setCell ⟨g, c * 13 + 4, none⟩ (.int .i64 m.want)).setCell ⟨g, c * 13 + 5, none⟩ (.int .i64 m.down)).setCell ⟨g, c * 13 + 6, none⟩ (.int .i64 m.over)).setCell ⟨g, c * 13 + 7, none⟩ (.int .i64 m.next)).setCell ⟨g, c * 13 + 8, none⟩ (.int .i64 m.per)).setCell ⟨g, c * 13 + 9, none⟩ (.int .i64 m.least)).setCell ⟨g, c * 13 + 10, none⟩ (.int .i64 m.most)) g (c * 13 + 11) _ _ (.int .i64 m.load) g10
  have h12 := h11.setSv g11 c 12 (by rw [List.length_set]; exact hc) (by decide) (.int .i64 m.cool) ⟨m.nm, m.ver, m.gone, m.image, m.want, m.down, m.over, m.next, m.per, m.least, m.most, m.load, m.cool⟩ (by rw [gt]; rfl) hz
  rw [List.set_set] at h12
  have g12 := heap_setCell_same ((((((((((((W.setCell ⟨g, c * 13, none⟩ (.string m.nm)).setCell ⟨g, c * 13 + 1, none⟩ (.int .i64 m.ver)).setCell ⟨g, c * 13 + 2, none⟩ (.bool m.gone)).setCell ⟨g, c * 13 + 3, none⟩ (.int .i64 m.image)).setCell ⟨g, c * 13 + 4, none⟩ (.int .i64 m.want)).setCell ⟨g, c * 13 + 5, none⟩ (.int .i64 m.down)).setCell ⟨g, c * 13 + 6, none⟩ (.int .i64 m.over)).setCell ⟨g, c * 13 + 7, none⟩ (.int .i64 m.next)).setCell ⟨g, c * 13 + 8, none⟩ (.int .i64 m.per)).setCell ⟨g, c * 13 + 9, none⟩ (.int .i64 m.least)).setCell ⟨g, c * 13 + 10, none⟩ (.int .i64 m.most)).setCell ⟨g, c * 13 + 11, none⟩ (.int .i64 m.load)) g (c * 13 + 12) _ _ (.int .i64 m.cool) g11
  exact h12

set_option maxRecDepth 8000 in
set_option maxHeartbeats 40000000 in
theorem seg21 (K : SBk) (X : Ac) (a0 a1 a2 ae : Option Addr) (c0 c1 c2 ce : Nat) (w : World) (HH : Hid (SBkV w a0 a1 a2 K)) (HK : Hid (sbOk K = true)) (HOK : Hid (acOk X = true)) (k : Nat) (HIX : Hid (svIx K.svcs X.svc = k)) (HKL : Hid (k < K.svcs.length)) (v : Int) (HV : Hid (v = K.now + 1)) (lo px : Nat) (HLO : Hid (w.heap.size + 3 ≤ lo ∧ w.heap.size + 3 ≤ px)) (le : List Cp) (HLC : Hid (endCps K X = le)) (HLL : Hid (le.length = K.cps.length)) (HSZ : Hid (X.svc.size ≤ maxLen)) (p0 p1 p2 : Option Addr) (n0 n1 q0 q1 q2 : Nat) (W : World) (HA : Hid (AI0 w W (.int .i64 K.now) (.slice a0 K.svcs.length c0) (.slice a1 K.cps.length c1) (.slice a2 K.bts.length c2) (.string X.svc) (.int .i64 X.seen) (.int .i64 X.create) (.int .i64 X.want) (.int .i64 X.cool) (.bool X.scale) (.slice ae X.ends.length ce) (.bool X.drop))) (HX : Hid (XI lo px W K.now (acSvs K X) (madeTo K X X.create.toNat) K.bts p0 p1 p2 n0 n1 K.bts.length q0 q1 q2)) (HC : Hid (acCode K X = 0)) (u0 u1 u5 u7 u8 u11 u12 u13 u14 u15 u16 u17 u18 u19 u20 u21 u22 u23 u24 u25 u26 u27 u28 u29 u30 u31 u32 u33 u34 u35 u36 u37 u38 u39 u40 u41 u42 u43 u44 u45 u46 u47 u48 u49 u50 u51 u52 u53 u54 u55 u56 u57 u58 u59 u60 u61 u62 u63 u64 u65 u66 u67 u68 u69 u70 u71 u72 u73 u74 u75 u76 u77 u78 u79 u80 u81 u82 u83 u84 u85 u86 u87 u88 u89 u90 u91 u92 u93 u94 u95 u96 u97 u98 u99 u100 u101 u102 u103 u104 u105 u106 u107 u108 u109 u110 u111 u112 u113 u114 u115 u116 u117 u118 u119 u120 u121 u122 u123 u124 u125 u126 u127 u128 u129 u130 u131 u132 u133 u134 u135 u136 u137 u138 u139 u140 u141 u142 u143 u144 u145 u146 u147 u148 u149 u150 u151 u152 u153 u154 u155 u156 u157 u158 u159 u160 u161 u162 u163 u164 u165 u166 u167 u168 u169 u170 u171 u172 u173 u174 u175 u176 u177 u178 u179 u180 u181 u182 u183 u184 u185 u186 u187 u188 u189 u190 u191 u192 u193 u194 u195 u196 u197 u198 u199 u200 u201 u202 u203 u204 u205 u206 u207 u208 u209 u210 u211 u212 u213 u214 u215 u216 u217 u218 u219 u220 u221 u222 u223 u224 u225 u226 u227 u228 u229 u230 u231 u232 u233 u234 u235 u236 u237 u238 u239 u240 u241 u242 u243 u244 u245 u246 u247 u248 u249 u250 u251 u252 u253 u254 u255 u256 u257 u258 u259 u260 u261 u262 u263 u264 u265 u266 u267 u268 u269 u270 u271 u272 u273 u274 u275 u276 u277 u278 u279 u280 u281 u282 u283 u284 u285 u286 u287 u288 u289 u290 u291 u292 u293 u294 u295 u296 u297 u298 u299 u300 u301 u302 : Value) : Code.wp Tryz.prog ap21 (ApQ K X w) { tmps := #[u0, u1, .pointer (some ⟨w.heap.size, 0, none⟩), .pointer (some ⟨w.heap.size + 1, 0, none⟩), .pointer (some ⟨w.heap.size + 1 + 1, 0, none⟩), u5, .int .i64 (k : Nat), u7, u8, .pointer (some ⟨px, 0, none⟩), .int .i64 v, u11, u12, u13, u14, u15, u16, u17, u18, u19, u20, u21, u22, u23, u24, u25, u26, u27, u28, u29, u30, u31, u32, u33, u34, u35, u36, u37, u38, u39, u40, u41, u42, u43, u44, u45, u46, u47, u48, u49, u50, u51, u52, u53, u54, u55, u56, u57, u58, u59, u60, u61, u62, u63, u64, u65, u66, u67, u68, u69, u70, u71, u72, u73, u74, u75, u76, u77, u78, u79, u80, u81, u82, u83, u84, u85, u86, u87, u88, u89, u90, u91, u92, u93, u94, u95, u96, u97, u98, u99, u100, u101, u102, u103, u104, u105, u106, u107, u108, u109, u110, u111, u112, u113, u114, u115, u116, u117, u118, u119, u120, u121, u122, u123, u124, u125, u126, u127, u128, u129, u130, u131, u132, u133, u134, u135, u136, u137, u138, u139, u140, u141, u142, u143, u144, u145, u146, u147, u148, u149, u150, u151, u152, u153, u154, u155, u156, u157, u158, u159, u160, u161, u162, u163, u164, u165, u166, u167, u168, u169, u170, u171, u172, u173, u174, u175, u176, u177, u178, u179, u180, u181, u182, u183, u184, u185, u186, u187, u188, u189, u190, u191, u192, u193, u194, u195, u196, u197, u198, u199, u200, u201, u202, u203, u204, u205, u206, u207, u208, u209, u210, u211, u212, u213, u214, u215, u216, u217, u218, u219, u220, u221, u222, u223, u224, u225, u226, u227, u228, u229, u230, u231, u232, u233, u234, u235, u236, u237, u238, u239, u240, u241, u242, u243, u244, u245, u246, u247, u248, u249, u250, u251, u252, u253, u254, u255, u256, u257, u258, u259, u260, u261, u262, u263, u264, u265, u266, u267, u268, u269, u270, u271, u272, u273, u274, u275, u276, u277, u278, u279, u280, u281, u282, u283, u284, u285, u286, u287, u288, u289, u290, u291, u292, u293, u294, u295, u296, u297, u298, u299, u300, u301, u302], defers := [] } W := by
  have hun := And.intro HH (And.intro HK (And.intro HOK (And.intro HIX (And.intro HKL (And.intro HV (And.intro HLO (And.intro HLC (And.intro HLL HSZ))))))))
  clear hun
  unfold ApQ
  rw [ap21_r]
  simp only [ap22, ap21, ap20, ap19, ap18, ap17, ap16, ap15, ap14, ap13, ap12, ap11, ap10, ap9, ap8, ap7, ap6, ap5, ap4, ap3, ap2, ap1, ap0, Tryz.f20, Option.getD_some, sfst_seq, ssnd_seq]
  obtain ⟨w2, hw2⟩ : ∃ w2, w2 = W.setCell ⟨px, 0, none⟩ (.int .i64 v) := ⟨_, rfl⟩
  have hp2 : w2.heap[px]? = some (.cells #[.int .i64 v, .slice p0 n0 q0, .slice p1 n1 q1, .slice p2 K.bts.length q2] 36 (0, 0)) := by rw [hw2, heap_setCell_same W px 0 _ _ _ HX.out.bx]; rfl
  have HX2 : Hid (XI lo px w2 v (acSvs K X) (madeTo K X X.create.toNat) K.bts p0 p1 p2 n0 n1 K.bts.length q0 q1 q2) := by
    have hb := HX.out.bx
    refine ⟨hp2, ?_, ?_, ?_, HX.out.l0, HX.out.l1, HX.out.l2, HX.out.z0, HX.out.z1, HX.out.z2, HX.out.m0, HX.out.m1, HX.out.m2⟩
    · rw [hw2]; exact owns_else HX.out.o0 hb t_sk _ _
    · rw [hw2]; exact owns_else HX.out.o1 hb (fun e => t_kc e.symm) _ _
    · rw [hw2]; exact owns_else HX.out.o2 hb t_bk _ _
  have HA2 : Hid (AI0 w w2 (.int .i64 K.now) (.slice a0 K.svcs.length c0) (.slice a1 K.cps.length c1) (.slice a2 K.bts.length c2) (.string X.svc) (.int .i64 X.seen) (.int .i64 X.create) (.int .i64 X.want) (.int .i64 X.cool) (.bool X.scale) (.slice ae X.ends.length ce) (.bool X.drop)) := by rw [hw2]; exact HA.out.sc HLO.out.2 _ _
  have hb := HX.out.bx
  have pxz : px < W.heap.size := lt_heap hb
  have pxf : ∀ j, W.frozen? ⟨px, j, none⟩ = false := fun j => by simp [World.frozen?, hb]
  have c0' : W.cell? ⟨px, 0, none⟩ = some (.int .i64 K.now) := by simp [World.cell?, hb]
  go_upto_region 55 with fail
  rw [← hw2]
  clear hw2 pxz pxf c0' hb
  have HR : Hid (applyK K X = ⟨v, acSvs K X, madeTo K X X.create.toNat, K.bts⟩ ∧ acCode K X = 0) := by
    refine ⟨?_, HC.out⟩
    unfold applyK
    rw [HC.out, if_pos rfl, HV.out]; rfl
  have z0 : w2.cell? ⟨px, 0, none⟩ = some (.int .i64 v) := by simp [World.cell?, hp2]
  have z1 : w2.cell? ⟨px, 1, none⟩ = some (.slice p0 n0 q0) := by simp [World.cell?, hp2]
  have z2 : w2.cell? ⟨px, 2, none⟩ = some (.slice p1 n1 q1) := by simp [World.cell?, hp2]
  have z3 : w2.cell? ⟨px, 3, none⟩ = some (.slice p2 K.bts.length q2) := by simp [World.cell?, hp2]
  have pxz : px < w2.heap.size := lt_heap hp2
  have hfz := HA2.out.own.frozen
  have hz := HA2.out.own.lt
  obtain ⟨r0, k0⟩ := HA2.out.own.cell 0 (by omega)
  obtain ⟨r1, k1⟩ := HA2.out.own.cell 1 (by omega)
  obtain ⟨r2, k2⟩ := HA2.out.own.cell 2 (by omega)
  obtain ⟨r3, k3⟩ := HA2.out.own.cell 3 (by omega)
  clear hp2
  go_wp2
  have p := fun i hi => puts_at 0 [.int .i64 v, .slice p0 n0 q0, .slice p1 n1 q1, .slice p2 K.bts.length q2] w2 0 HA2.out.own (by simp) i hi
  have t0 := p 0 (by simp)
  have t1 := p 1 (by simp)
  have t2 := p 2 (by simp)
  have t3 := p 3 (by simp)
  simp only [puts, Nat.add_zero, Nat.zero_add, Nat.reduceAdd, List.getElem?_cons_zero, List.getElem?_cons_succ] at t0 t1 t2 t3
  have hbl := puts_below (a := w) 0 (B := w.heap.size + 2) (by omega) [.int .i64 v, .slice p0 n0 q0, .slice p1 n1 q1, .slice p2 K.bts.length q2] w2 0 HA2.out.below
  refine bodyPost_ret (v := .tuple #[.agg #[.int .i64 v, .slice p0 n0 q0, .slice p1 n1 q1, .slice p2 K.bts.length q2], .int .i64 0]) (by simp [results, go_sem, t0, t1, t2, t3]) rfl ⟨?_, hbl⟩
  rw [HR.out.1, HR.out.2]
  have e0 := HX2.out.l0
  have e1 := HX2.out.l1
  have hlo2 := HLO.out
  have HXF : XI lo px (puts w2 (w.heap.size + 2) 0 0 [.int .i64 v, .slice p0 n0 q0, .slice p1 n1 q1, .slice p2 K.bts.length q2]) v (acSvs K X) (madeTo K X X.create.toNat) K.bts p0 p1 p2 n0 n1 K.bts.length q0 q1 q2 := by
    have hne : ∀ p' n' q' e' s' xs', w2.ownsRow lo e' s' (.slice p' n' q') n' xs' → ∀ g, p' = some ⟨g, 0, none⟩ → g ≠ w.heap.size + 2 := fun p' n' q' e' s' xs' ho g hg => by
      rcases ho.2 with ⟨hv, _⟩ | ⟨g2, _, _, hv, hb2, _⟩
      · cases hv; cases hg
      · cases hv; cases hg; omega
    have s1 := HX2.out
    simp only [puts, Nat.add_zero, Nat.zero_add, Nat.reduceAdd]
    have a0' := hne _ _ _ _ _ _ s1.o0
    have a1' := hne _ _ _ _ _ _ s1.o1
    have a2' := hne _ _ _ _ _ _ s1.o2
    exact (((s1.scA (by omega) a0' a1' a2' _ _).scA (by omega) a0' a1' a2' _ _).scA (by omega) a0' a1' a2' _ _).scA (by omega) a0' a1' a2' _ _
  refine ⟨p0, p1, p2, ?_⟩
  first | exact ⟨q0, q1, q2, by rw [← e0, ← e1], HXF.v⟩ | exact ⟨⟨q0, q1, q2, by rw [← e0, ← e1]⟩, HXF.v⟩

set_option maxRecDepth 8000 in
set_option maxHeartbeats 40000000 in
theorem seg20 (K : SBk) (X : Ac) (a0 a1 a2 ae : Option Addr) (c0 c1 c2 ce : Nat) (w : World) (HH : Hid (SBkV w a0 a1 a2 K)) (HK : Hid (sbOk K = true)) (HOK : Hid (acOk X = true)) (k : Nat) (HIX : Hid (svIx K.svcs X.svc = k)) (HKL : Hid (k < K.svcs.length)) (v : Int) (HV : Hid (v = K.now + 1)) (lo px : Nat) (HLO : Hid (w.heap.size + 3 ≤ lo ∧ w.heap.size + 3 ≤ px)) (le : List Cp) (HLC : Hid (endCps K X = le)) (HLL : Hid (le.length = K.cps.length)) (HSZ : Hid (X.svc.size ≤ maxLen)) (p0 p1 p2 : Option Addr) (q0 n1 q1 q2 : Nat) (W : World) (HA : Hid (AI0 w W (.int .i64 K.now) (.slice a0 K.svcs.length c0) (.slice a1 K.cps.length c1) (.slice a2 K.bts.length c2) (.string X.svc) (.int .i64 X.seen) (.int .i64 X.create) (.int .i64 X.want) (.int .i64 X.cool) (.bool X.scale) (.slice ae X.ends.length ce) (.bool X.drop))) (HX : Hid (XI lo px W K.now (K.svcs.set k (acS3 K X)) (madeTo K X X.create.toNat) K.bts p0 p1 p2 K.svcs.length n1 K.bts.length q0 q1 q2)) (HC : Hid (acCode K X = 0)) (u0 u1 u5 u7 u8 u11 u12 u13 u14 u15 u16 u17 u18 u19 u20 u21 u22 u23 u24 u25 u26 u27 u28 u29 u30 u31 u32 u33 u34 u35 u36 u37 u38 u39 u40 u41 u42 u43 u44 u45 u46 u47 u48 u49 u50 u51 u52 u53 u54 u55 u56 u57 u58 u59 u60 u61 u62 u63 u64 u65 u66 u67 u68 u69 u70 u71 u72 u73 u74 u75 u76 u77 u78 u79 u80 u81 u82 u83 u84 u85 u86 u87 u88 u89 u90 u91 u92 u93 u94 u95 u96 u97 u98 u99 u100 u101 u102 u103 u104 u105 u106 u107 u108 u109 u110 u111 u112 u113 u114 u115 u116 u117 u118 u119 u120 u121 u122 u123 u124 u125 u126 u127 u128 u129 u130 u131 u132 u133 u134 u135 u136 u137 u138 u139 u140 u141 u142 u143 u144 u145 u146 u147 u148 u149 u150 u151 u152 u153 u154 u155 u156 u157 u158 u159 u160 u161 u162 u163 u164 u165 u166 u167 u168 u169 u170 u171 u172 u173 u174 u175 u176 u177 u178 u179 u180 u181 u182 u183 u184 u185 u186 u187 u188 u189 u190 u191 u192 u193 u194 u195 u196 u197 u198 u199 u200 u201 u202 u203 u204 u205 u206 u207 u208 u209 u210 u211 u212 u213 u214 u215 u216 u217 u218 u219 u220 u221 u222 u223 u224 u225 u226 u227 u228 u229 u230 u231 u232 u233 u234 u235 u236 u237 u238 u239 u240 u241 u242 u243 u244 u245 u246 u247 u248 u249 u250 u251 u252 u253 u254 u255 u256 u257 u258 u259 u260 u261 u262 u263 u264 u265 u266 u267 u268 u269 u270 u271 u272 u273 u274 u275 u276 u277 u278 u279 u280 u281 u282 u283 u284 u285 u286 u287 u288 u289 u290 u291 u292 u293 u294 u295 u296 u297 u298 u299 u300 u301 u302 : Value) : Code.wp Tryz.prog ap20 (ApQ K X w) { tmps := #[u0, u1, .pointer (some ⟨w.heap.size, 0, none⟩), .pointer (some ⟨w.heap.size + 1, 0, none⟩), .pointer (some ⟨w.heap.size + 1 + 1, 0, none⟩), u5, .int .i64 (k : Nat), u7, u8, .pointer (some ⟨px, 0, none⟩), .int .i64 v, u11, u12, u13, u14, u15, u16, u17, u18, u19, u20, u21, u22, u23, u24, u25, u26, u27, u28, u29, u30, u31, u32, u33, u34, u35, u36, u37, u38, u39, u40, u41, u42, u43, u44, u45, u46, u47, u48, u49, u50, u51, u52, u53, u54, u55, u56, u57, u58, u59, u60, u61, u62, u63, u64, u65, u66, u67, u68, u69, u70, u71, u72, u73, u74, u75, u76, u77, u78, u79, u80, u81, u82, u83, u84, u85, u86, u87, u88, u89, u90, u91, u92, u93, u94, u95, u96, u97, u98, u99, u100, u101, u102, u103, u104, u105, u106, u107, u108, u109, u110, u111, u112, u113, u114, u115, u116, u117, u118, u119, u120, u121, u122, u123, u124, u125, u126, u127, u128, u129, u130, u131, u132, u133, u134, u135, u136, u137, u138, u139, u140, u141, u142, u143, u144, u145, u146, u147, u148, u149, u150, u151, u152, u153, u154, u155, u156, u157, u158, u159, u160, u161, u162, u163, u164, u165, u166, u167, u168, u169, u170, u171, u172, u173, u174, u175, u176, u177, u178, u179, u180, u181, u182, u183, u184, u185, u186, u187, u188, u189, u190, u191, u192, u193, u194, u195, u196, u197, u198, u199, u200, u201, u202, u203, u204, u205, u206, u207, u208, u209, u210, u211, u212, u213, u214, u215, u216, u217, u218, u219, u220, u221, u222, u223, u224, u225, u226, u227, u228, u229, u230, u231, u232, u233, u234, u235, u236, u237, u238, u239, u240, u241, u242, u243, u244, u245, u246, u247, u248, u249, u250, u251, u252, u253, u254, u255, u256, u257, u258, u259, u260, u261, u262, u263, u264, u265, u266, u267, u268, u269, u270, u271, u272, u273, u274, u275, u276, u277, u278, u279, u280, u281, u282, u283, u284, u285, u286, u287, u288, u289, u290, u291, u292, u293, u294, u295, u296, u297, u298, u299, u300, u301, u302], defers := [] } W := by
  have hun := And.intro HH (And.intro HK (And.intro HOK (And.intro HIX (And.intro HKL (And.intro HV (And.intro HLO (And.intro HLC (And.intro HLL HSZ))))))))
  clear hun
  unfold ApQ
  rw [ap20_21]
  simp only [ap20, ap19, ap18, ap17, ap16, ap15, ap14, ap13, ap12, ap11, ap10, ap9, ap8, ap7, ap6, ap5, ap4, ap3, ap2, ap1, ap0, Tryz.f20, Option.getD_some, sfst_seq, ssnd_seq]
  obtain ⟨az, b0, b1, b2, b3, b4, b5, b6, b7⟩ := HA.out.ax
  rcases Bool.eq_false_or_eq_true X.drop with hd | hd
  · have HSV : Hid (acSvs K X = K.svcs.take k ++ K.svcs.drop (k + 1)) := by show _ = _; unfold acSvs; rw [hd, if_pos rfl, HIX.out, Int.toNat_natCast]
    rw [hd] at b7
    clear hd
    go_upto_region 53 with fail
    clear az b0 b1 b2 b3 b4 b5 b6 b7
    have hkl := HKL.out
    have e0 := HX.out.l0
    have m0 := HX.out.m0
    have HLT : Hid (((K.svcs.set k (acS3 K X)).take k).length = k ∧ ((K.svcs.set k (acS3 K X)).drop (k + 1)).length = K.svcs.length - (k + 1)) := by
      exact ⟨by rw [List.length_take, e0]; omega, by rw [List.length_drop, e0]⟩
    have HTK : Hid ((K.svcs.set k (acS3 K X)).take k = K.svcs.take k ∧ (K.svcs.set k (acS3 K X)).drop (k + 1) = K.svcs.drop (k + 1)) := by
      refine ⟨?_, ?_⟩
      · rw [List.take_set_of_le (Nat.le_refl k)]
      · rw [List.drop_set, if_pos (Nat.lt_succ_self k)]
    obtain ⟨A1, _, _, hs4, _, hn1, _, hA1, _⟩ := cut_sv (px := px) HX.out.o0 HX.out.l0 HX.out.bx k (by omega) HX.out.m0
    obtain ⟨_, A2, cc2, _, hs10, _, hn2, _, hA2⟩ := cut_sv (px := px) HX.out.o0 HX.out.l0 HX.out.bx (k + 1) (by omega) HX.out.m0
    rw [show (((k + 1 : Nat)) : Int) = (k : Int) + 1 from by omega] at hs10
    rw [HTK.out.1] at hn1
    rw [HTK.out.2] at hn2
    rw [HTK.out.1, HTK.out.2] at HLT
    have HLR : Hid (lo ≤ W.heap.size) := by
      obtain ⟨g, _, _, h1, h2, _⟩ := owns_blk HX.out.o0 (by omega)
      have := lt_heap h2
      show lo ≤ _
      omega
    show Code.wp Tryz.prog r53 _ _ _
    refine region53 _ _ W px p0 A1 A2 K.svcs.length q0 k (K.svcs.length - (k + 1)) cc2 K.now (.slice p1 n1 q1) (.slice p2 K.bts.length q2) ((K.svcs.take k).flatMap SvC) ((K.svcs.drop (k + 1)).flatMap SvC) rfl rfl rfl HX.out.bx hs4 hs10 (by rw [flat_len SvC 13 SvC_len, HLT.out.1]) (by rw [flat_len SvC 13 SvC_len, HLT.out.2]) (SvC_one _) (SvC_one _) (by omega) hn1 hn2 hA1 hA2 ?_
    intro W4 vs4 g cap hX4 hg4 hpx4 hO4
    clear hs4 hs10 hn1 hn2 hA1 hA2
    have HX4 : Hid (XI lo px W4 K.now (acSvs K X) (madeTo K X X.create.toNat) K.bts (some ⟨g, 0, none⟩) p1 p2 (k + (K.svcs.length - (k + 1))) n1 K.bts.length cap q1 q2) := by
      refine ⟨hpx4, ?_, owns_belx HX.out.o1 hX4 HX.out.bx (fun e => t_kc e.symm), owns_belx HX.out.o2 hX4 HX.out.bx t_bk, ?_, HX.out.l1, HX.out.l2, ?_, HX.out.z1, HX.out.z2, by omega, HX.out.m1, HX.out.m2⟩
      · rw [HSV.out, List.flatMap_append]
        exact owns_lo hO4 HLR.out
      · rw [HSV.out, List.length_append, HLT.out.1, HLT.out.2]
      · rw [HSV.out]
        intro i hi
        rw [List.length_append, HLT.out.1, HLT.out.2] at hi
        by_cases hik : i < k
        · have z := HX.out.z0 i (by rw [e0]; omega)
          have t : (K.svcs.take k ++ K.svcs.drop (k + 1)).getD i Sv.none = (K.svcs.set k (acS3 K X)).getD i Sv.none := by
            rw [List.getD_eq_getElem?_getD, List.getD_eq_getElem?_getD, List.getElem?_append_left (by rw [HLT.out.1]; exact hik), List.getElem?_take, if_pos hik, List.getElem?_set_ne (by omega)]
          rw [t]; exact z
        · have z := HX.out.z0 (i + 1) (by rw [e0]; omega)
          have t : (K.svcs.take k ++ K.svcs.drop (k + 1)).getD i Sv.none = (K.svcs.set k (acS3 K X)).getD (i + 1) Sv.none := by
            rw [List.getD_eq_getElem?_getD, List.getD_eq_getElem?_getD, List.getElem?_append_right (by rw [HLT.out.1]; omega), HLT.out.1, List.getElem?_drop, List.getElem?_set_ne (by omega), show k + 1 + (i - k) = i + 1 from by omega]
          rw [t]; exact z
    have HA4 := hid (HA.out.belx hX4 HLO.out.2)
    clear hX4 hg4 hpx4 hO4
    simp only [ops53, r53, ap20, ap19, ap18, ap17, ap16, ap15, ap14, ap13, ap12, ap11, ap10, ap9, ap8, ap7, ap6, ap5, ap4, ap3, ap2, ap1, ap0, Tryz.f20, Option.getD_some, sfst_seq, ssnd_seq, sthen_cond, rops_region, RY.putAll, Act.put, List.setIfInBounds_toArray, List.set_cons_zero, List.set_cons_succ]
    generalize vs4 287 = z287
    generalize vs4 288 = z288
    generalize vs4 289 = z289
    generalize vs4 290 = z290
    generalize vs4 291 = z291
    generalize vs4 292 = z292
    generalize vs4 293 = z293
    generalize vs4 294 = z294
    generalize vs4 295 = z295
    generalize vs4 296 = z296
    generalize vs4 297 = z297
    generalize vs4 298 = z298
    generalize vs4 299 = z299
    clear e0 m0 hkl
    go_wp2
    exact seg21 K X a0 a1 a2 ae c0 c1 c2 ce w HH HK HOK k HIX HKL v HV lo px HLO le HLC HLL HSZ (some ⟨g, 0, none⟩) p1 p2 (k + (K.svcs.length - (k + 1))) n1 cap q1 q2 W4 HA4 HX4 HC _ _ _ _ _ _ _ _ _ _ _ _ _ _ _ _ _ _ _ _ _ _ _ _ _ _ _ _ _ _ _ _ _ _ _ _ _ _ _ _ _ _ _ _ _ _ _ _ _ _ _ _ _ _ _ _ _ _ _ _ _ _ _ _ _ _ _ _ _ _ _ _ _ _ _ _ _ _ _ _ _ _ _ _ _ _ _ _ _ _ _ _ _ _ _ _ _ _ _ _ _ _ _ _ _ _ _ _ _ _ _ _ _ _ _ _ _ _ _ _ _ _ _ _ _ _ _ _ _ _ _ _ _ _ _ _ _ _ _ _ _ _ _ _ _ _ _ _ _ _ _ _ _ _ _ _ _ _ _ _ _ _ _ _ _ _ _ _ _ _ _ _ _ _ _ _ _ _ _ _ _ _ _ _ _ _ _ _ _ _ _ _ _ _ _ _ _ _ _ _ _ _ _ _ _ _ _ _ _ _ _ _ _ _ _ _ _ _ _ _ _ _ _ _ _ _ _ _ _ _ _ _ _ _ _ _ _ _ _ _ _ _ _ _ _ _ _ _ _ _ _ _ _ _ _ _ _ _ _ _ _ _ _ _ _ _ _ _ _ _ _ _ _ _ _ _ _ _ _ _ _ _ _ _ _ _ _ _ _ _ _ _ _ _ _ _ _ 
  · have HSV : Hid (acSvs K X = K.svcs.set k (acS3 K X)) := by show _ = _; unfold acSvs; rw [hd, HIX.out, Int.toNat_natCast]; rfl
    rw [hd] at b7
    clear hd
    go_wp2
    refine seg21 K X a0 a1 a2 ae c0 c1 c2 ce w HH HK HOK k HIX HKL v HV lo px HLO le HLC HLL HSZ p0 p1 p2 K.svcs.length n1 q0 q1 q2 W HA (hid ?_) HC _ _ _ _ _ _ _ _ _ _ _ _ _ _ _ _ _ _ _ _ _ _ _ _ _ _ _ _ _ _ _ _ _ _ _ _ _ _ _ _ _ _ _ _ _ _ _ _ _ _ _ _ _ _ _ _ _ _ _ _ _ _ _ _ _ _ _ _ _ _ _ _ _ _ _ _ _ _ _ _ _ _ _ _ _ _ _ _ _ _ _ _ _ _ _ _ _ _ _ _ _ _ _ _ _ _ _ _ _ _ _ _ _ _ _ _ _ _ _ _ _ _ _ _ _ _ _ _ _ _ _ _ _ _ _ _ _ _ _ _ _ _ _ _ _ _ _ _ _ _ _ _ _ _ _ _ _ _ _ _ _ _ _ _ _ _ _ _ _ _ _ _ _ _ _ _ _ _ _ _ _ _ _ _ _ _ _ _ _ _ _ _ _ _ _ _ _ _ _ _ _ _ _ _ _ _ _ _ _ _ _ _ _ _ _ _ _ _ _ _ _ _ _ _ _ _ _ _ _ _ _ _ _ _ _ _ _ _ _ _ _ _ _ _ _ _ _ _ _ _ _ _ _ _ _ _ _ _ _ _ _ _ _ _ _ _ _ _ _ _ _ _ _ _ _ _ _ _ _ _ _ _ _ _ _ _ _ _ _ _ _ _ _ _ _ _ _ 
    rw [HSV.out]
    exact HX.out

set_option maxRecDepth 8000 in
set_option maxHeartbeats 40000000 in
theorem seg18 (K : SBk) (X : Ac) (a0 a1 a2 ae : Option Addr) (c0 c1 c2 ce : Nat) (w : World) (HH : Hid (SBkV w a0 a1 a2 K)) (HK : Hid (sbOk K = true)) (HOK : Hid (acOk X = true)) (k : Nat) (HIX : Hid (svIx K.svcs X.svc = k)) (HKL : Hid (k < K.svcs.length)) (v : Int) (HV : Hid (v = K.now + 1)) (lo px : Nat) (HLO : Hid (w.heap.size + 3 ≤ lo ∧ w.heap.size + 3 ≤ px)) (le : List Cp) (HLC : Hid (endCps K X = le)) (HLL : Hid (le.length = K.cps.length)) (HSZ : Hid (X.svc.size ≤ maxLen)) (p0 p1 p2 : Option Addr) (q0 q1 q2 : Nat) (ps : Nat) (s : Sv) (HS : Hid (acS K X = s)) (tw tc : Int) (HTW : Hid (tw = (acS2 K X).want)) (HTC : Hid (tc = (acS2 K X).cool)) (W : World) (HA : Hid (AI0 w W (.int .i64 K.now) (.slice a0 K.svcs.length c0) (.slice a1 K.cps.length c1) (.slice a2 K.bts.length c2) (.string X.svc) (.int .i64 X.seen) (.int .i64 X.create) (.int .i64 X.want) (.int .i64 X.cool) (.bool X.scale) (.slice ae X.ends.length ce) (.bool X.drop))) (HX : Hid (XI lo px W K.now K.svcs (madeTo K X X.create.toNat) K.bts p0 p1 p2 K.svcs.length (K.cps.length + X.create.toNat) K.bts.length q0 q1 q2)) (HPS : Hid (ps ≠ px ∧ w.heap.size + 3 ≤ ps ∧ (∀ g, p0 = some ⟨g, 0, none⟩ → g ≠ ps) ∧ (∀ g, p1 = some ⟨g, 0, none⟩ → g ≠ ps) ∧ (∀ g, p2 = some ⟨g, 0, none⟩ → g ≠ ps))) (HB : Hid (W.heap[ps]? = some (.cells #[.string s.nm, .int .i64 s.ver, .bool s.gone, .int .i64 s.image, .int .i64 tw, .int .i64 s.down, .int .i64 s.over, .int .i64 (s.next + X.create), .int .i64 s.per, .int .i64 s.least, .int .i64 s.most, .int .i64 s.load, .int .i64 tc] 86 (0, 0)))) (HC : Hid (acCode K X = 0)) (u0 u1 u5 u7 u8 u11 u12 u14 u15 u16 u17 u18 u19 u20 u21 u22 u23 u24 u25 u26 u27 u28 u29 u30 u31 u32 u33 u34 u35 u36 u37 u38 u39 u40 u41 u42 u43 u44 u45 u46 u47 u48 u49 u50 u51 u52 u53 u54 u55 u56 u57 u58 u59 u60 u61 u62 u63 u64 u65 u66 u67 u68 u69 u70 u71 u72 u73 u74 u75 u76 u77 u78 u79 u80 u81 u82 u83 u84 u85 u86 u87 u88 u89 u90 u91 u92 u93 u94 u95 u96 u97 u98 u99 u100 u101 u102 u103 u104 u105 u106 u107 u108 u109 u110 u111 u112 u113 u114 u115 u116 u117 u118 u119 u120 u121 u122 u123 u124 u125 u126 u127 u128 u129 u130 u131 u132 u133 u134 u135 u136 u137 u138 u139 u140 u141 u142 u143 u144 u145 u146 u147 u148 u149 u150 u151 u152 u153 u154 u155 u156 u157 u158 u159 u160 u161 u162 u163 u164 u165 u166 u167 u168 u169 u170 u171 u172 u173 u174 u175 u176 u177 u178 u179 u180 u181 u182 u183 u184 u185 u186 u187 u188 u189 u190 u191 u192 u193 u194 u195 u196 u197 u198 u199 u200 u201 u202 u203 u204 u205 u206 u207 u208 u209 u210 u211 u212 u213 u214 u215 u216 u217 u218 u219 u220 u221 u222 u223 u224 u225 u226 u227 u228 u229 u230 u231 u232 u233 u234 u235 u236 u237 u238 u239 u240 u241 u242 u243 u244 u245 u246 u247 u248 u249 u250 u251 u252 u253 u254 u255 u256 u257 u258 u259 u260 u261 u262 u263 u264 u265 u266 u267 u268 u269 u270 u271 u272 u273 u274 u275 u276 u277 u278 u279 u280 u281 u282 u283 u284 u285 u286 u287 u288 u289 u290 u291 u292 u293 u294 u295 u296 u297 u298 u299 u300 u301 u302 : Value) : Code.wp Tryz.prog ap18 (ApQ K X w) { tmps := #[u0, u1, .pointer (some ⟨w.heap.size, 0, none⟩), .pointer (some ⟨w.heap.size + 1, 0, none⟩), .pointer (some ⟨w.heap.size + 1 + 1, 0, none⟩), u5, .int .i64 (k : Nat), u7, u8, .pointer (some ⟨px, 0, none⟩), .int .i64 v, u11, u12, .pointer (some ⟨ps, 0, none⟩), u14, u15, u16, u17, u18, u19, u20, u21, u22, u23, u24, u25, u26, u27, u28, u29, u30, u31, u32, u33, u34, u35, u36, u37, u38, u39, u40, u41, u42, u43, u44, u45, u46, u47, u48, u49, u50, u51, u52, u53, u54, u55, u56, u57, u58, u59, u60, u61, u62, u63, u64, u65, u66, u67, u68, u69, u70, u71, u72, u73, u74, u75, u76, u77, u78, u79, u80, u81, u82, u83, u84, u85, u86, u87, u88, u89, u90, u91, u92, u93, u94, u95, u96, u97, u98, u99, u100, u101, u102, u103, u104, u105, u106, u107, u108, u109, u110, u111, u112, u113, u114, u115, u116, u117, u118, u119, u120, u121, u122, u123, u124, u125, u126, u127, u128, u129, u130, u131, u132, u133, u134, u135, u136, u137, u138, u139, u140, u141, u142, u143, u144, u145, u146, u147, u148, u149, u150, u151, u152, u153, u154, u155, u156, u157, u158, u159, u160, u161, u162, u163, u164, u165, u166, u167, u168, u169, u170, u171, u172, u173, u174, u175, u176, u177, u178, u179, u180, u181, u182, u183, u184, u185, u186, u187, u188, u189, u190, u191, u192, u193, u194, u195, u196, u197, u198, u199, u200, u201, u202, u203, u204, u205, u206, u207, u208, u209, u210, u211, u212, u213, u214, u215, u216, u217, u218, u219, u220, u221, u222, u223, u224, u225, u226, u227, u228, u229, u230, u231, u232, u233, u234, u235, u236, u237, u238, u239, u240, u241, u242, u243, u244, u245, u246, u247, u248, u249, u250, u251, u252, u253, u254, u255, u256, u257, u258, u259, u260, u261, u262, u263, u264, u265, u266, u267, u268, u269, u270, u271, u272, u273, u274, u275, u276, u277, u278, u279, u280, u281, u282, u283, u284, u285, u286, u287, u288, u289, u290, u291, u292, u293, u294, u295, u296, u297, u298, u299, u300, u301, u302], defers := [] } W := by
  have hun := And.intro HH (And.intro HK (And.intro HOK (And.intro HIX (And.intro HKL (And.intro HV (And.intro HLO (And.intro HLC (And.intro HLL HSZ))))))))
  clear hun
  unfold ApQ
  rw [ap18_20]
  simp only [ap19, ap18, ap17, ap16, ap15, ap14, ap13, ap12, ap11, ap10, ap9, ap8, ap7, ap6, ap5, ap4, ap3, ap2, ap1, ap0, Tryz.f20, Option.getD_some, sfst_seq, ssnd_seq]
  have hkl := HKL.out
  have hsk : K.svcs.getD k Sv.none = s := by rw [← HS.out]; unfold acS svGet; rw [HIX.out, Int.toNat_natCast]
  have HSK := hid hsk
  obtain ⟨w2, hw2⟩ : ∃ w2, w2 = W.setCell ⟨ps, 1, none⟩ (.int .i64 v) := ⟨_, rfl⟩
  have hp2 : w2.heap[ps]? = some (.cells #[.string s.nm, .int .i64 v, .bool s.gone, .int .i64 s.image, .int .i64 tw, .int .i64 s.down, .int .i64 s.over, .int .i64 (s.next + X.create), .int .i64 s.per, .int .i64 s.least, .int .i64 s.most, .int .i64 s.load, .int .i64 tc] 86 (0, 0)) := by rw [hw2, heap_setCell_same W ps 1 _ _ _ HB.out]; rfl
  have HX2 : Hid (XI lo px w2 K.now K.svcs (madeTo K X X.create.toNat) K.bts p0 p1 p2 K.svcs.length (K.cps.length + X.create.toNat) K.bts.length q0 q1 q2) := by rw [hw2]; exact HX.out.scA HPS.out.1 HPS.out.2.2.1 HPS.out.2.2.2.1 HPS.out.2.2.2.2 _ _
  have HA2 : Hid (AI0 w w2 (.int .i64 K.now) (.slice a0 K.svcs.length c0) (.slice a1 K.cps.length c1) (.slice a2 K.bts.length c2) (.string X.svc) (.int .i64 X.seen) (.int .i64 X.create) (.int .i64 X.want) (.int .i64 X.cool) (.bool X.scale) (.slice ae X.ends.length ce) (.bool X.drop)) := by rw [hw2]; exact HA.out.sc HPS.out.2.1 _ _
  have hb := HB.out
  have psz0 : ps < W.heap.size := lt_heap hb
  have psf : ∀ j, W.frozen? ⟨ps, j, none⟩ = false := fun j => by simp [World.frozen?, hb]
  have d1 : W.cell? ⟨ps, 1, none⟩ = some (.int .i64 s.ver) := by simp [World.cell?, hb]
  clear hsk
  go_upto_region 51 with fail
  rw [← hw2]
  clear hw2 psz0 psf d1 hb HA HX
  have hsk := HSK.out
  obtain ⟨g0, cur0, hp0, hg0lo, hg0, hgs, hcell0⟩ := owns_blk HX2.out.o0 (by omega)
  have z0 : w2.cell? ⟨ps, 0, none⟩ = some (.string s.nm) := by simp [World.cell?, hp2]
  have z1 : w2.cell? ⟨ps, 1, none⟩ = some (.int .i64 v) := by simp [World.cell?, hp2]
  have z2 : w2.cell? ⟨ps, 2, none⟩ = some (.bool s.gone) := by simp [World.cell?, hp2]
  have z3 : w2.cell? ⟨ps, 3, none⟩ = some (.int .i64 s.image) := by simp [World.cell?, hp2]
  have z4 : w2.cell? ⟨ps, 4, none⟩ = some (.int .i64 tw) := by simp [World.cell?, hp2]
  have z5 : w2.cell? ⟨ps, 5, none⟩ = some (.int .i64 s.down) := by simp [World.cell?, hp2]
  have z6 : w2.cell? ⟨ps, 6, none⟩ = some (.int .i64 s.over) := by simp [World.cell?, hp2]
  have z7 : w2.cell? ⟨ps, 7, none⟩ = some (.int .i64 (s.next + X.create)) := by simp [World.cell?, hp2]
  have z8 : w2.cell? ⟨ps, 8, none⟩ = some (.int .i64 s.per) := by simp [World.cell?, hp2]
  have z9 : w2.cell? ⟨ps, 9, none⟩ = some (.int .i64 s.least) := by simp [World.cell?, hp2]
  have z10 : w2.cell? ⟨ps, 10, none⟩ = some (.int .i64 s.most) := by simp [World.cell?, hp2]
  have z11 : w2.cell? ⟨ps, 11, none⟩ = some (.int .i64 s.load) := by simp [World.cell?, hp2]
  have z12 : w2.cell? ⟨ps, 12, none⟩ = some (.int .i64 tc) := by simp [World.cell?, hp2]
  have e0 : w2.cell? ⟨g0, k * 13, none⟩ = some (.string s.nm) := hcell0 _ _ (by have t := flat_at Sv.none SvC 13 SvC_len K.svcs k 0 (by omega) (by omega); rw [hsk] at t; exact t)
  have e1 : w2.cell? ⟨g0, k * 13 + 1, none⟩ = some (.int .i64 s.ver) := hcell0 _ _ (by have t := flat_at Sv.none SvC 13 SvC_len K.svcs k 1 (by omega) (by omega); rw [hsk] at t; exact t)
  have e2 : w2.cell? ⟨g0, k * 13 + 2, none⟩ = some (.bool s.gone) := hcell0 _ _ (by have t := flat_at Sv.none SvC 13 SvC_len K.svcs k 2 (by omega) (by omega); rw [hsk] at t; exact t)
  have e3 : w2.cell? ⟨g0, k * 13 + 3, none⟩ = some (.int .i64 s.image) := hcell0 _ _ (by have t := flat_at Sv.none SvC 13 SvC_len K.svcs k 3 (by omega) (by omega); rw [hsk] at t; exact t)
  have e4 : w2.cell? ⟨g0, k * 13 + 4, none⟩ = some (.int .i64 s.want) := hcell0 _ _ (by have t := flat_at Sv.none SvC 13 SvC_len K.svcs k 4 (by omega) (by omega); rw [hsk] at t; exact t)
  have e5 : w2.cell? ⟨g0, k * 13 + 5, none⟩ = some (.int .i64 s.down) := hcell0 _ _ (by have t := flat_at Sv.none SvC 13 SvC_len K.svcs k 5 (by omega) (by omega); rw [hsk] at t; exact t)
  have e6 : w2.cell? ⟨g0, k * 13 + 6, none⟩ = some (.int .i64 s.over) := hcell0 _ _ (by have t := flat_at Sv.none SvC 13 SvC_len K.svcs k 6 (by omega) (by omega); rw [hsk] at t; exact t)
  have e7 : w2.cell? ⟨g0, k * 13 + 7, none⟩ = some (.int .i64 s.next) := hcell0 _ _ (by have t := flat_at Sv.none SvC 13 SvC_len K.svcs k 7 (by omega) (by omega); rw [hsk] at t; exact t)
  have e8 : w2.cell? ⟨g0, k * 13 + 8, none⟩ = some (.int .i64 s.per) := hcell0 _ _ (by have t := flat_at Sv.none SvC 13 SvC_len K.svcs k 8 (by omega) (by omega); rw [hsk] at t; exact t)
  have e9 : w2.cell? ⟨g0, k * 13 + 9, none⟩ = some (.int .i64 s.least) := hcell0 _ _ (by have t := flat_at Sv.none SvC 13 SvC_len K.svcs k 9 (by omega) (by omega); rw [hsk] at t; exact t)
  have e10 : w2.cell? ⟨g0, k * 13 + 10, none⟩ = some (.int .i64 s.most) := hcell0 _ _ (by have t := flat_at Sv.none SvC 13 SvC_len K.svcs k 10 (by omega) (by omega); rw [hsk] at t; exact t)
  have e11 : w2.cell? ⟨g0, k * 13 + 11, none⟩ = some (.int .i64 s.load) := hcell0 _ _ (by have t := flat_at Sv.none SvC 13 SvC_len K.svcs k 11 (by omega) (by omega); rw [hsk] at t; exact t)
  have e12 : w2.cell? ⟨g0, k * 13 + 12, none⟩ = some (.int .i64 s.cool) := hcell0 _ _ (by have t := flat_at Sv.none SvC 13 SvC_len K.svcs k 12 (by omega) (by omega); rw [hsk] at t; exact t)
  have psz : ps < w2.heap.size := lt_heap hp2
  have g0z : g0 < w2.heap.size := lt_heap hg0
  have gfz : ∀ j, w2.frozen? ⟨g0, j, none⟩ = false := fun j => by simp [World.frozen?, hg0]
  obtain ⟨xz, x0, x1, x2, x3⟩ := HX2.out.at_
  have HP0 := hid hp0
  rw [hp0] at x1
  have hk0 : (0 : Int) ≤ (k : Int) := by omega
  have hk3 : (k : Int) < (K.svcs.length : Int) := by omega
  have HS3 : Hid (acS3 K X = (⟨s.nm, v, s.gone, s.image, tw, s.down, s.over, s.next + X.create, s.per, s.least, s.most, s.load, tc⟩ : Sv)) := by
    show _ = _
    unfold acS3
    rw [← HV.out, HS.out, HTW.out, HTC.out]
    unfold acS2
    rw [HS.out]
    split <;> rfl
  have HXF : Hid (XI lo px (((((((((((((w2.setCell ⟨g0, k * 13, none⟩ (.string s.nm)).setCell ⟨g0, k * 13 + 1, none⟩ (.int .i64 v)).setCell ⟨g0, k * 13 + 2, none⟩ (.bool s.gone)).setCell ⟨g0, k * 13 + 3, none⟩ (.int .i64 s.image)).setCell ⟨g0, k * 13 + 4, none⟩ (.int .i64 tw)).setCell ⟨g0, k * 13 + 5, none⟩ (.int .i64 s.down)).setCell ⟨g0, k * 13 + 6, none⟩ (.int .i64 s.over)).setCell ⟨g0, k * 13 + 7, none⟩ (.int .i64 (s.next + X.create))).setCell ⟨g0, k * 13 + 8, none⟩ (.int .i64 s.per)).setCell ⟨g0, k * 13 + 9, none⟩ (.int .i64 s.least)).setCell ⟨g0, k * 13 + 10, none⟩ (.int .i64 s.most)).setCell ⟨g0, k * 13 + 11, none⟩ (.int .i64 s.load)).setCell ⟨g0, k * 13 + 12, none⟩ (.int .i64 tc)) K.now (K.svcs.set k (acS3 K X)) (madeTo K X X.create.toNat) K.bts p0 p1 p2 K.svcs.length (K.cps.length + X.create.toNat) K.bts.length q0 q1 q2) := by
    have t := HX2.out
    rw [hp0] at t ⊢
    rw [HS3.out]
    exact t.putSv hg0 k hkl (⟨s.nm, v, s.gone, s.image, tw, s.down, s.over, s.next + X.create, s.per, s.least, s.most, s.load, tc⟩ : Sv) (by have := t.z0 k hkl; rw [hsk] at this; exact this)
  have hglo : w.heap.size + 3 ≤ g0 := by have := HLO.out.1; omega
  have HAF : Hid (AI0 w (((((((((((((w2.setCell ⟨g0, k * 13, none⟩ (.string s.nm)).setCell ⟨g0, k * 13 + 1, none⟩ (.int .i64 v)).setCell ⟨g0, k * 13 + 2, none⟩ (.bool s.gone)).setCell ⟨g0, k * 13 + 3, none⟩ (.int .i64 s.image)).setCell ⟨g0, k * 13 + 4, none⟩ (.int .i64 tw)).setCell ⟨g0, k * 13 + 5, none⟩ (.int .i64 s.down)).setCell ⟨g0, k * 13 + 6, none⟩ (.int .i64 s.over)).setCell ⟨g0, k * 13 + 7, none⟩ (.int .i64 (s.next + X.create))).setCell ⟨g0, k * 13 + 8, none⟩ (.int .i64 s.per)).setCell ⟨g0, k * 13 + 9, none⟩ (.int .i64 s.least)).setCell ⟨g0, k * 13 + 10, none⟩ (.int .i64 s.most)).setCell ⟨g0, k * 13 + 11, none⟩ (.int .i64 s.load)).setCell ⟨g0, k * 13 + 12, none⟩ (.int .i64 tc)) (.int .i64 K.now) (.slice a0 K.svcs.length c0) (.slice a1 K.cps.length c1) (.slice a2 K.bts.length c2) (.string X.svc) (.int .i64 X.seen) (.int .i64 X.create) (.int .i64 X.want) (.int .i64 X.cool) (.bool X.scale) (.slice ae X.ends.length ce) (.bool X.drop)) := ((((((((((((HA2.out.sc hglo _ _).sc hglo _ _).sc hglo _ _).sc hglo _ _).sc hglo _ _).sc hglo _ _).sc hglo _ _).sc hglo _ _).sc hglo _ _).sc hglo _ _).sc hglo _ _).sc hglo _ _).sc hglo _ _
  clear hcell0 hsk hp0 hp2 hg0 hgs hg0lo
  go_wp2
  exact seg20 K X a0 a1 a2 ae c0 c1 c2 ce w HH HK HOK k HIX HKL v HV lo px HLO le HLC HLL HSZ p0 p1 p2 q0 _ q1 q2 _ HAF HXF HC _ _ _ _ _ _ _ _ _ _ _ _ _ _ _ _ _ _ _ _ _ _ _ _ _ _ _ _ _ _ _ _ _ _ _ _ _ _ _ _ _ _ _ _ _ _ _ _ _ _ _ _ _ _ _ _ _ _ _ _ _ _ _ _ _ _ _ _ _ _ _ _ _ _ _ _ _ _ _ _ _ _ _ _ _ _ _ _ _ _ _ _ _ _ _ _ _ _ _ _ _ _ _ _ _ _ _ _ _ _ _ _ _ _ _ _ _ _ _ _ _ _ _ _ _ _ _ _ _ _ _ _ _ _ _ _ _ _ _ _ _ _ _ _ _ _ _ _ _ _ _ _ _ _ _ _ _ _ _ _ _ _ _ _ _ _ _ _ _ _ _ _ _ _ _ _ _ _ _ _ _ _ _ _ _ _ _ _ _ _ _ _ _ _ _ _ _ _ _ _ _ _ _ _ _ _ _ _ _ _ _ _ _ _ _ _ _ _ _ _ _ _ _ _ _ _ _ _ _ _ _ _ _ _ _ _ _ _ _ _ _ _ _ _ _ _ _ _ _ _ _ _ _ _ _ _ _ _ _ _ _ _ _ _ _ _ _ _ _ _ _ _ _ _ _ _ _ _ _ _ _ _ _ _ _ _ _ _ _ _ _ _ _ _ _ _ _ 

set_option maxRecDepth 8000 in
set_option maxHeartbeats 40000000 in
theorem seg17 (K : SBk) (X : Ac) (a0 a1 a2 ae : Option Addr) (c0 c1 c2 ce : Nat) (w : World) (HH : Hid (SBkV w a0 a1 a2 K)) (HK : Hid (sbOk K = true)) (HOK : Hid (acOk X = true)) (k : Nat) (HIX : Hid (svIx K.svcs X.svc = k)) (HKL : Hid (k < K.svcs.length)) (v : Int) (HV : Hid (v = K.now + 1)) (lo px : Nat) (HLO : Hid (w.heap.size + 3 ≤ lo ∧ w.heap.size + 3 ≤ px)) (le : List Cp) (HLC : Hid (endCps K X = le)) (HLL : Hid (le.length = K.cps.length)) (HSZ : Hid (X.svc.size ≤ maxLen)) (p0 p1 p2 : Option Addr) (q0 q1 q2 : Nat) (ps : Nat) (s : Sv) (HS : Hid (acS K X = s)) (tw tc : Int) (HTW : Hid (tw = (acS2 K X).want)) (HTC : Hid (tc = (acS2 K X).cool)) (W : World) (HA : Hid (AI0 w W (.int .i64 K.now) (.slice a0 K.svcs.length c0) (.slice a1 K.cps.length c1) (.slice a2 K.bts.length c2) (.string X.svc) (.int .i64 X.seen) (.int .i64 X.create) (.int .i64 X.want) (.int .i64 X.cool) (.bool X.scale) (.slice ae X.ends.length ce) (.bool X.drop))) (HX : Hid (XI lo px W K.now K.svcs le K.bts p0 p1 p2 K.svcs.length K.cps.length K.bts.length q0 q1 q2)) (HPS : Hid (ps ≠ px ∧ w.heap.size + 3 ≤ ps ∧ (∀ g, p0 = some ⟨g, 0, none⟩ → g ≠ ps) ∧ (∀ g, p1 = some ⟨g, 0, none⟩ → g ≠ ps) ∧ (∀ g, p2 = some ⟨g, 0, none⟩ → g ≠ ps))) (HB : Hid (W.heap[ps]? = some (.cells #[.string s.nm, .int .i64 s.ver, .bool s.gone, .int .i64 s.image, .int .i64 tw, .int .i64 s.down, .int .i64 s.over, .int .i64 s.next, .int .i64 s.per, .int .i64 s.least, .int .i64 s.most, .int .i64 s.load, .int .i64 tc] 86 (0, 0)))) (HC : Hid (acCode K X = 0)) (HRM : Hid (roomBad K X = false)) (u0 u1 u5 u7 u8 u11 u12 u14 u15 u16 u17 u18 u19 u20 u21 u22 u23 u24 u25 u26 u27 u28 u29 u30 u31 u32 u33 u34 u35 u36 u37 u38 u39 u40 u41 u42 u43 u44 u45 u46 u47 u48 u49 u50 u51 u52 u53 u54 u55 u56 u57 u58 u59 u60 u61 u62 u63 u64 u65 u66 u67 u68 u69 u70 u71 u72 u73 u74 u75 u76 u77 u78 u79 u80 u81 u82 u83 u84 u85 u86 u87 u88 u89 u90 u91 u92 u93 u94 u95 u96 u97 u98 u99 u100 u101 u102 u103 u104 u105 u106 u107 u108 u109 u110 u111 u112 u113 u114 u115 u116 u117 u118 u119 u120 u121 u122 u123 u124 u125 u126 u127 u128 u129 u130 u131 u132 u133 u134 u135 u136 u137 u138 u139 u140 u141 u142 u143 u144 u145 u146 u147 u148 u149 u150 u151 u152 u153 u154 u155 u156 u157 u158 u159 u160 u161 u162 u163 u164 u165 u166 u167 u168 u169 u170 u171 u172 u173 u174 u175 u176 u177 u178 u179 u180 u181 u182 u183 u184 u185 u186 u187 u188 u189 u190 u191 u192 u193 u194 u195 u196 u197 u198 u199 u200 u201 u202 u203 u204 u205 u206 u207 u208 u209 u210 u211 u212 u213 u214 u215 u216 u217 u218 u219 u220 u221 u222 u223 u224 u225 u226 u227 u228 u229 u230 u231 u232 u233 u234 u235 u236 u237 u238 u239 u240 u241 u242 u243 u244 u245 u246 u247 u248 u249 u250 u251 u252 u253 u254 u255 u256 u257 u258 u259 u260 u261 u262 u263 u264 u265 u266 u267 u268 u269 u270 u271 u272 u273 u274 u275 u276 u277 u278 u279 u280 u281 u282 u283 u284 u285 u286 u287 u288 u289 u290 u291 u292 u293 u294 u295 u296 u297 u298 u299 u300 u301 u302 : Value) : Code.wp Tryz.prog ap17 (ApQ K X w) { tmps := #[u0, u1, .pointer (some ⟨w.heap.size, 0, none⟩), .pointer (some ⟨w.heap.size + 1, 0, none⟩), .pointer (some ⟨w.heap.size + 1 + 1, 0, none⟩), u5, .int .i64 (k : Nat), u7, u8, .pointer (some ⟨px, 0, none⟩), .int .i64 v, u11, u12, .pointer (some ⟨ps, 0, none⟩), u14, u15, u16, u17, u18, u19, u20, u21, u22, u23, u24, u25, u26, u27, u28, u29, u30, u31, u32, u33, u34, u35, u36, u37, u38, u39, u40, u41, u42, u43, u44, u45, u46, u47, u48, u49, u50, u51, u52, u53, u54, u55, u56, u57, u58, u59, u60, u61, u62, u63, u64, u65, u66, u67, u68, u69, u70, u71, u72, u73, u74, u75, u76, u77, u78, u79, u80, u81, u82, u83, u84, u85, u86, u87, u88, u89, u90, u91, u92, u93, u94, u95, u96, u97, u98, u99, u100, u101, u102, u103, u104, u105, u106, u107, u108, u109, u110, u111, u112, u113, u114, u115, u116, u117, u118, u119, u120, u121, u122, u123, u124, u125, u126, u127, u128, u129, u130, u131, u132, u133, u134, u135, u136, u137, u138, u139, u140, u141, u142, u143, u144, u145, u146, u147, u148, u149, u150, u151, u152, u153, u154, u155, u156, u157, u158, u159, u160, u161, u162, u163, u164, u165, u166, u167, u168, u169, u170, u171, u172, u173, u174, u175, u176, u177, u178, u179, u180, u181, u182, u183, u184, u185, u186, u187, u188, u189, u190, u191, u192, u193, u194, u195, u196, u197, u198, u199, u200, u201, u202, u203, u204, u205, u206, u207, u208, u209, u210, u211, u212, u213, u214, u215, u216, u217, u218, u219, u220, u221, u222, u223, u224, u225, u226, u227, u228, u229, u230, u231, u232, u233, u234, u235, u236, u237, u238, u239, u240, u241, u242, u243, u244, u245, u246, u247, u248, u249, u250, u251, u252, u253, u254, u255, u256, u257, u258, u259, u260, u261, u262, u263, u264, u265, u266, u267, u268, u269, u270, u271, u272, u273, u274, u275, u276, u277, u278, u279, u280, u281, u282, u283, u284, u285, u286, u287, u288, u289, u290, u291, u292, u293, u294, u295, u296, u297, u298, u299, u300, u301, u302], defers := [] } W := by
  have hun := And.intro HH (And.intro HK (And.intro HOK (And.intro HIX (And.intro HKL (And.intro HV (And.intro HLO (And.intro HLC (And.intro HLL HSZ))))))))
  clear hun
  unfold ApQ
  rw [ap17_18]
  simp only [ap17, ap16, ap15, ap14, ap13, ap12, ap11, ap10, ap9, ap8, ap7, ap6, ap5, ap4, ap3, ap2, ap1, ap0, Tryz.f20, Option.getD_some, sfst_seq, ssnd_seq]
  have HSM : Hid (K.svcs.length ≤ 1048576 ∧ K.cps.length ≤ 1048576 ∧ K.bts.length ≤ 1048576) := by
    have q := HK.out
    simp only [sbOk, Bool.and_eq_true, decide_eq_true_eq] at q
    exact ⟨by omega, by omega, by omega⟩
  have HSN := hid (sane_ok HK.out)
  have HAO2 := hid (ac_bounds HOK.out)
  have hsk : K.svcs.getD k Sv.none = s := by rw [← HS.out]; unfold acS svGet; rw [HIX.out, Int.toNat_natCast]
  have HNX := hid (next_of_ok HK.out k HKL.out)
  rw [hsk] at HNX
  have HNUM := hid (HSN.out.num k HKL.out)
  rw [hsk] at HNUM
  have HBW : Hid (0 ≤ tw ∧ tw ≤ 10) := by
    show _ ∧ _
    rw [HTW.out]
    unfold acS2
    split
    · rename_i e; exact HAO2.out.2.2 e
    · rw [HS.out]; exact ⟨HNUM.out.1, HNUM.out.2.1⟩
  clear hsk
  have HRR : Hid ((K.cps.length : Int) + X.create ≤ 200 ∧ s.next + X.create ≤ 1000000 ∧ 0 ≤ X.create ∧ (X.create.toNat : Int) = X.create ∧ K.cps.length + X.create.toNat ≤ 200) := by
    have q := HRM.out
    unfold roomBad at q
    rw [HS.out] at q
    simp only [Bool.or_eq_false_iff, decide_eq_false_iff_not] at q
    have h0 := HAO2.out.1
    refine ⟨by omega, by omega, h0, by omega, by omega⟩
  have HLR0 : Hid (lo ≤ W.heap.size) := by
    have h := owns_blk HX.out.o0 (by have := HKL.out; omega)
    obtain ⟨g, _, _, h1, h2, _⟩ := h
    have := lt_heap h2
    show lo ≤ _
    omega
  go_wp2
  go_loopw [15] (fun iv wr => ∃ (i : Nat) (p1' : Option Addr) (q1' : Nat), i ≤ X.create.toNat ∧ iv = .int .i64 (i : Nat) ∧ AI0 w wr (.int .i64 K.now) (.slice a0 K.svcs.length c0) (.slice a1 K.cps.length c1) (.slice a2 K.bts.length c2) (.string X.svc) (.int .i64 X.seen) (.int .i64 X.create) (.int .i64 X.want) (.int .i64 X.cool) (.bool X.scale) (.slice ae X.ends.length ce) (.bool X.drop) ∧ XI lo px wr K.now K.svcs (madeTo K X i) K.bts p0 p1' p2 K.svcs.length (K.cps.length + i) K.bts.length q0 q1' q2 ∧ (ps ≠ px ∧ w.heap.size + 3 ≤ ps ∧ (∀ g, p0 = some ⟨g, 0, none⟩ → g ≠ ps) ∧ (∀ g, p1' = some ⟨g, 0, none⟩ → g ≠ ps) ∧ (∀ g, p2 = some ⟨g, 0, none⟩ → g ≠ ps)) ∧ wr.heap[ps]? = some (.cells #[.string s.nm, .int .i64 s.ver, .bool s.gone, .int .i64 s.image, .int .i64 tw, .int .i64 s.down, .int .i64 s.over, .int .i64 (s.next + (i : Nat)), .int .i64 s.per, .int .i64 s.least, .int .i64 s.most, .int .i64 s.load, .int .i64 tc] 86 (0, 0))) (fun iv _ => X.create.toNat - (intOf iv).toNat)
  case atStart =>
    refine ⟨0, p1, q1, Nat.zero_le _, rfl, HA.out, ?_, HPS.out, ?_⟩
    · have e : madeTo K X 0 = le := HLC.out
      rw [e]; exact HX.out
    · rw [HB.out]; simp
  case round =>
    obtain ⟨i, p1', q1', hi, rfl, hA, hX, hP, hB⟩ := hrel
    have HA1 := hid hA
    have HX1 := hid hX
    have HPS2 := hid hP
    have HB1 := hid hB
    clear hA hX hP hB HA HX HPS HB
    obtain ⟨az, b0, b1, b2, b3, b4, b5, b6, b7⟩ := HA1.out.ax
    obtain ⟨r1, r2, r3, r4, r5⟩ := HRR.out
    by_cases hlt : i < X.create.toNat
    · have psz : ps < wr.heap.size := lt_heap HB1.out
      have s7 : wr.cell? ⟨ps, 7, none⟩ = some (.int .i64 (s.next + (i : Nat))) := by simp [World.cell?, HB1.out]
      have s3 : wr.cell? ⟨ps, 3, none⟩ = some (.int .i64 s.image) := by simp [World.cell?, HB1.out]
      have HLL2 : Hid (i + 1 ≤ X.create.toNat) := hlt
      have HNB : Hid (0 ≤ s.next + (i : Nat) ∧ s.next + (i : Nat) ≤ 1000000) := by
        obtain ⟨h1, _⟩ := HNX.out
        exact ⟨by omega, by omega⟩
      obtain ⟨w2, hw2⟩ : ∃ w2, w2 = wr.alloc (.cells #[.string X.svc, .int .i64 (s.next + (i : Nat)), .int .i64 v, .int .i64 s.image, .int .i64 1, .bool false, .string ⟨#[]⟩] 90) := ⟨_, rfl⟩
      obtain ⟨pc, hpc⟩ : ∃ pc, pc = wr.heap.size := ⟨_, rfl⟩
      have hb2 : Below wr.heap.size wr w2 := by rw [hw2]; exact blw_alloc (Below.refl _ _) _
      have HA2 := hid (HA1.out.later hb2)
      have HX2 := hid (HX1.out.later hb2)
      have HB2 := hid ((hb2.block ps (lt_heap HB1.out)).trans HB1.out)
      have HP2 : Hid (w2.heap[pc]? = some (.cells #[.string X.svc, .int .i64 (s.next + (i : Nat)), .int .i64 v, .int .i64 s.image, .int .i64 1, .bool false, .string ⟨#[]⟩] 90 (0, 0))) := by show _ = _; rw [hw2, hpc]; exact heap_alloc_new wr _
      have HPX : Hid (pc ≠ px) := by have := lt_heap HX1.out.bx; show pc ≠ px; omega
      have HLR : Hid (lo ≤ w2.heap.size) := by
        obtain ⟨g, _, _, h1, h2, _⟩ := owns_blk HX2.out.o0 (by have := HKL.out; omega)
        have := lt_heap h2
        show lo ≤ _
        omega
      go_upto_region 45 with fail
      rw [← hw2, ← hpc]
      clear hw2 hpc hb2 psz s7 s3 az b0 b1 b2 b3 b4 b5 b6 b7
      go_wp2
      go_loopw [17] (fun nv wr => ∃ t : Nat, t ≤ K.cps.length + i ∧ nv = .int .i64 (t : Nat) ∧ (∀ j, j < t → ahead ((madeTo K X i).getD j Cp.none) (⟨X.svc, s.next + (i : Nat), v, s.image, 1, false, ⟨#[]⟩⟩ : Cp) = true) ∧ Below w2.heap.size w2 wr) (fun nv _ => K.cps.length + i - (intOf nv).toNat)
      case atStart => exact ⟨0, Nat.zero_le _, rfl, fun j hj => absurd hj (Nat.not_lt_zero j), Below.refl _ _⟩
      case round =>
        obtain ⟨t, ht, rfl, hah, hW5⟩ := hrel
        have HAH := hid hah
        have HW5 := hid hW5
        have HA3 := hid (HA2.out.later hW5)
        have HX3 := hid (HX2.out.later hW5)
        have HB3 := hid ((hW5.block ps (lt_heap HB2.out)).trans HB2.out)
        have HP3 := hid ((hW5.block pc (lt_heap HP2.out)).trans HP2.out)
        have HPS3 := HPS2
        obtain ⟨w3, hw3⟩ : ∃ w3, w3 = wr := ⟨_, rfl⟩
        rw [← hw3] at HA3 HX3 HB3 HP3 HW5 ⊢
        clear hah hW5 hw3
        have hNE := pst_some w3
        obtain ⟨xz, x0, x1, x2, x3⟩ := HX3.out.at_
        have PZ : ∀ py : Pst w3, px < py.W.heap.size := fun py => py.size xz
        have P2 : ∀ py : Pst w3, py.W.cell? ⟨px, 2, none⟩ = some (.slice p1' (K.cps.length + i) q1') := fun py => py.cell x2 xz
        clear xz x0 x1 x2 x3
        obtain ⟨nn, hnn⟩ : ∃ nn, nn = K.cps.length + i := ⟨_, rfl⟩
        rw [← hnn] at P2
        have HNN := hid hnn
        clear hnn
        by_cases hlt2 : t < nn
        · obtain ⟨b, off, hp1, hbl, hf⟩ := HX3.out.v.c.at_ t (by have := HX3.out.l1; have := HNN.out; show t < (madeTo K X i).length; omega)
          obtain ⟨x, hx⟩ : ∃ x, x = (madeTo K X i).getD t Cp.none := ⟨_, rfl⟩
          have hf' : CpIs w3 b (off + t * 7) x := by rw [hx]; exact hf
          have HXX := hid hx
          obtain ⟨f0, f1, f2, f3, f4, f5, f6, _⟩ := hf'
          have pcz : pc < w3.heap.size := lt_heap HP3.out
          have BZ : ∀ py : Pst w3, b < py.W.heap.size := fun py => py.size hbl
          have CZ : ∀ py : Pst w3, pc < py.W.heap.size := fun py => py.size pcz
          have E0 : ∀ py : Pst w3, py.W.cell? ⟨b, off + t * 7, none⟩ = some (.string x.svc) := fun py => py.cell f0 hbl
          have E1 : ∀ py : Pst w3, py.W.cell? ⟨b, off + t * 7 + 1, none⟩ = some (.int .i64 x.num) := fun py => py.cell f1 hbl
          have E2 : ∀ py : Pst w3, py.W.cell? ⟨b, off + t * 7 + 2, none⟩ = some (.int .i64 x.ver) := fun py => py.cell f2 hbl
          have E3 : ∀ py : Pst w3, py.W.cell? ⟨b, off + t * 7 + 3, none⟩ = some (.int .i64 x.image) := fun py => py.cell f3 hbl
          have E4 : ∀ py : Pst w3, py.W.cell? ⟨b, off + t * 7 + 4, none⟩ = some (.int .i64 x.state) := fun py => py.cell f4 hbl
          have E5 : ∀ py : Pst w3, py.W.cell? ⟨b, off + t * 7 + 5, none⟩ = some (.bool x.ending) := fun py => py.cell f5 hbl
          have E6 : ∀ py : Pst w3, py.W.cell? ⟨b, off + t * 7 + 6, none⟩ = some (.string x.berth) := fun py => py.cell f6 hbl
          have G0 : ∀ py : Pst w3, py.W.cell? ⟨pc, 0, none⟩ = some (.string X.svc) := fun py => py.cell (by simp [World.cell?, HP3.out]) pcz
          have G1 : ∀ py : Pst w3, py.W.cell? ⟨pc, 1, none⟩ = some (.int .i64 (s.next + (i : Nat))) := fun py => py.cell (by simp [World.cell?, HP3.out]) pcz
          have G2 : ∀ py : Pst w3, py.W.cell? ⟨pc, 2, none⟩ = some (.int .i64 v) := fun py => py.cell (by simp [World.cell?, HP3.out]) pcz
          have G3 : ∀ py : Pst w3, py.W.cell? ⟨pc, 3, none⟩ = some (.int .i64 s.image) := fun py => py.cell (by simp [World.cell?, HP3.out]) pcz
          have G4 : ∀ py : Pst w3, py.W.cell? ⟨pc, 4, none⟩ = some (.int .i64 1) := fun py => py.cell (by simp [World.cell?, HP3.out]) pcz
          have G5 : ∀ py : Pst w3, py.W.cell? ⟨pc, 5, none⟩ = some (.bool false) := fun py => py.cell (by simp [World.cell?, HP3.out]) pcz
          have G6 : ∀ py : Pst w3, py.W.cell? ⟨pc, 6, none⟩ = some (.string ⟨#[]⟩) := fun py => py.cell (by simp [World.cell?, HP3.out]) pcz
          have HAX := hid (l12AheadS x (⟨X.svc, s.next + (i : Nat), v, s.image, 1, false, ⟨#[]⟩⟩ : Cp))
          have ht0 : (0 : Int) ≤ (t : Int) := by omega
          have ht3 : (t : Int) < (nn : Int) := by omega
          rw [hp1] at P2
          clear hx hf hp1 hbl pcz f0 f1 f2 f3 f4 f5 f6
          cases hz : ahead x (⟨X.svc, s.next + (i : Nat), v, s.image, 1, false, ⟨#[]⟩⟩ : Cp)
          · have HPL : Hid (plcCp (madeTo K X i) (⟨X.svc, s.next + (i : Nat), v, s.image, 1, false, ⟨#[]⟩⟩ : Cp) = t) := plc_eq _ _ t (by have := HX3.out.l1; omega) HAH.out (fun _ => by rw [← HXX.out]; exact hz)
            go_upto_region 46 with fail
            refine region_class w3 (Below.refl _ _) (by kernel_rfl) (by kernel_rfl) ?_
            repeat (first
              | go_big_quiet_skip
              | (go_big_quiet_want; go_big_quiet_op; first | go_big_quiet_on | (apply Exists.intro; refine ⟨fun px => ?_, ?_⟩; (focus (go_at_call 48; refine (HAX.out _).mono ?_; rintro e w' ⟨he, hb⟩; exact ⟨he, ⟨w', blw_trans px.ok hb⟩, rfl⟩)); go_big_quiet_on)))
            refine wpQuiet_nil ?_
            intro _ hw'
            obtain ⟨x6, hw''⟩ := hw'
            subst hw''
            obtain ⟨w4, hw4⟩ : ∃ w4, w4 = x6.W := ⟨_, rfl⟩
            have hok6 := x6.ok
            rw [← hw4] at hok6 ⊢
            have HA4 := hid (HA3.out.later hok6)
            have HX4 := hid (HX3.out.later hok6)
            have HB4 := hid ((hok6.block ps (lt_heap HB3.out)).trans HB3.out)
            have HP4 := hid ((hok6.block pc (lt_heap HP3.out)).trans HP3.out)
            have HLR4 : Hid (lo ≤ w4.heap.size) := Nat.le_trans HLR.out (Nat.le_trans HW5.out.size hok6.size)
            clear hw4 hok6
            clear BZ CZ E0 E1 E2 E3 E4 E5 E6 G0 G1 G2 G3 G4 G5 G6 PZ P2 hNE
            obtain ⟨A1, A2, cc2, hs4, hs12, hn1, hn2, hA1, hA2⟩ := cut_row (px := px) HX4.out.o1 HX4.out.l1 HX4.out.bx t (by have := HX4.out.l1; omega) HX4.out.m1
            have HLT : Hid (((madeTo K X i).take t).length = t ∧ ((madeTo K X i).drop t).length = K.cps.length + i - t) := by
              have e := HX4.out.l1
              exact ⟨by rw [List.length_take]; omega, by rw [List.length_drop]; omega⟩
            go_upto_region 48 with fail
            show Code.wp Tryz.prog r48 _ _ _
            refine region48 _ _ w4 px p1' A1 A2 (K.cps.length + i) q1' t (K.cps.length + i - t) cc2 (⟨X.svc, s.next + (i : Nat), v, s.image, 1, false, ⟨#[]⟩⟩ : Cp) pc K.now (.slice p0 K.svcs.length q0) (.slice p2 K.bts.length q2) (((madeTo K X i).take t).flatMap CpC) (((madeTo K X i).drop t).flatMap CpC) rfl rfl rfl rfl HX4.out.bx HP4.out (by have := HPX.out; omega) hs4 hs12 (by rw [flat_len CpC 7 CpC_len, HLT.out.1]) (by rw [flat_len CpC 7 CpC_len, HLT.out.2]) (CpC_one _) (CpC_one _) (by have := HRR.out; have := HLL2.out; omega) hn1 hn2 hA1 hA2 ?_
            intro W6 vs4 g cap hX6 hg6 hpx6 hO6
            clear hs4 hs12 hn1 hn2 hA1 hA2
            have HIN : Hid (insCp (madeTo K X i) (⟨X.svc, s.next + (i : Nat), v, s.image, 1, false, ⟨#[]⟩⟩ : Cp) = (madeTo K X i).take t ++ [(⟨X.svc, s.next + (i : Nat), v, s.image, 1, false, ⟨#[]⟩⟩ : Cp)] ++ (madeTo K X i).drop t) := by show _ = _; unfold insCp; rw [HPL.out]
            have HMD : Hid (madeTo K X (i + 1) = insCp (madeTo K X i) (⟨X.svc, s.next + (i : Nat), v, s.image, 1, false, ⟨#[]⟩⟩ : Cp)) := by show _ = _; rw [madeTo]; unfold newCp; rw [HS.out, ← HV.out]; rfl
            have HN1 : Hid (t + 1 + (K.cps.length + i - t) = K.cps.length + (i + 1)) := by show _ = _; have := HLL2.out; omega
            have HX6 : Hid (XI lo px W6 K.now K.svcs (madeTo K X (i + 1)) K.bts p0 (some ⟨g, 0, none⟩) p2 K.svcs.length (K.cps.length + (i + 1)) K.bts.length q0 cap q2) := by
              rw [HN1.out] at hpx6 hO6
              refine ⟨hpx6, owns_belx HX4.out.o0 hX6 HX4.out.bx t_sk, ?_, owns_belx HX4.out.o2 hX6 HX4.out.bx t_bk, HX4.out.l0, ?_, HX4.out.l2, HX4.out.z0, ?_, HX4.out.z2, HX4.out.m0, by have := HRR.out; omega, HX4.out.m2⟩
              · rw [HMD.out, HIN.out]
                have e : ((madeTo K X i).take t ++ [(⟨X.svc, s.next + (i : Nat), v, s.image, 1, false, ⟨#[]⟩⟩ : Cp)] ++ (madeTo K X i).drop t).flatMap CpC = ((madeTo K X i).take t).flatMap CpC ++ CpC (⟨X.svc, s.next + (i : Nat), v, s.image, 1, false, ⟨#[]⟩⟩ : Cp) ++ ((madeTo K X i).drop t).flatMap CpC := by
                  rw [List.flatMap_append, List.flatMap_append]; simp
                rw [e]
                exact owns_lo hO6 (by have := HLR4.out; omega)
              · rw [HMD.out, ins_len, HX4.out.l1]; omega
              · rw [HMD.out]; exact ins_sized HX4.out.z1 ⟨HSZ.out, Nat.zero_le _⟩
            have HA6 := hid (HA4.out.belx hX6 HLO.out.2)
            have HB6 : Hid (W6.heap[ps]? = some (.cells #[.string s.nm, .int .i64 s.ver, .bool s.gone, .int .i64 s.image, .int .i64 tw, .int .i64 s.down, .int .i64 s.over, .int .i64 (s.next + (i : Nat)), .int .i64 s.per, .int .i64 s.least, .int .i64 s.most, .int .i64 s.load, .int .i64 tc] 86 (0, 0))) := (hX6.block ps (lt_heap HB4.out) HPS3.out.1).trans HB4.out
            have HPS6 : Hid (ps ≠ px ∧ w.heap.size + 3 ≤ ps ∧ (∀ g', p0 = some ⟨g', 0, none⟩ → g' ≠ ps) ∧ (∀ g', (some ⟨g, 0, none⟩ : Option Addr) = some ⟨g', 0, none⟩ → g' ≠ ps) ∧ (∀ g', p2 = some ⟨g', 0, none⟩ → g' ≠ ps)) := by
              refine ⟨HPS3.out.1, HPS3.out.2.1, HPS3.out.2.2.1, fun g' e => ?_, HPS3.out.2.2.2.2⟩
              injection e with e
              injection e with e
              have := lt_heap HB4.out
              omega
            clear hX6 hg6 hpx6 hO6
            simp only [ops48, r48, ap17, ap16, ap15, ap14, ap13, ap12, ap11, ap10, ap9, ap8, ap7, ap6, ap5, ap4, ap3, ap2, ap1, ap0, Tryz.f20, Option.getD_some, sfst_seq, ssnd_seq, sbody_block, sbody_loop, rops_region, RY.putAll, Act.put, List.setIfInBounds_toArray, List.set_cons_zero, List.set_cons_succ]
            generalize vs4 259 = z259
            generalize vs4 260 = z260
            generalize vs4 261 = z261
            generalize vs4 262 = z262
            generalize vs4 263 = z263
            generalize vs4 264 = z264
            generalize vs4 265 = z265
            generalize vs4 266 = z266
            generalize vs4 267 = z267
            generalize vs4 268 = z268
            generalize vs4 269 = z269
            generalize vs4 270 = z270
            generalize vs4 271 = z271
            generalize vs4 272 = z272
            generalize vs4 273 = z273
            have psz : ps < W6.heap.size := lt_heap HB6.out
            have psf : ∀ j, W6.frozen? ⟨ps, j, none⟩ = false := fun j => by simp [World.frozen?, HB6.out]
            have s7 : W6.cell? ⟨ps, 7, none⟩ = some (.int .i64 (s.next + (i : Nat))) := by simp [World.cell?, HB6.out]
            have h5 := heap_setCell_same W6 ps 7 _ _ (.int .i64 (s.next + (i : Nat) + 1)) HB6.out
            have HA5 := hid (HA6.out.sc HPS6.out.2.1 7 (.int .i64 (s.next + (i : Nat) + 1)))
            have HX5 := hid (HX6.out.scA HPS6.out.1 HPS6.out.2.2.1 HPS6.out.2.2.2.1 HPS6.out.2.2.2.2 7 (.int .i64 (s.next + (i : Nat) + 1)))
            have H5 := hid h5
            clear h5
            obtain ⟨w1, w2⟩ := HNB.out
            go_wp2
            go_roundw
            case rel =>
              refine ⟨i + 1, some ⟨g, 0, none⟩, cap, hlt, by go_num, HA5.out, HX5.out, HPS6.out, ?_⟩
              have e : s.next + ((i + 1 : Nat) : Int) = s.next + (i : Nat) + 1 := by omega
              rw [e, H5.out]; rfl
            case measure => simp [intOf]; omega
          · have HAN : Hid (∀ j, j < t + 1 → ahead ((madeTo K X i).getD j Cp.none) (⟨X.svc, s.next + (i : Nat), v, s.image, 1, false, ⟨#[]⟩⟩ : Cp) = true) := fun j hj => by
              by_cases e : j = t
              · subst e; rw [← HXX.out]; exact hz
              · exact HAH.out j (by omega)
            go_upto_region 46 with fail
            refine region_class w3 (Below.refl _ _) (by kernel_rfl) (by kernel_rfl) ?_
            repeat (first
              | go_big_quiet_skip
              | (go_big_quiet_want; go_big_quiet_op; first | go_big_quiet_on | (apply Exists.intro; refine ⟨fun px => ?_, ?_⟩; (focus (go_at_call 48; refine (HAX.out _).mono ?_; rintro e w' ⟨he, hb⟩; exact ⟨he, ⟨w', blw_trans px.ok hb⟩, rfl⟩)); go_big_quiet_on)))
            refine wpQuiet_nil ?_
            intro _ hw'
            obtain ⟨x6, hw''⟩ := hw'
            subst hw''
            have HWN := hid (blw_trans HW5.out x6.ok)
            clear BZ CZ E0 E1 E2 E3 E4 E5 E6 G0 G1 G2 G3 G4 G5 G6 PZ P2 hNE
            go_wp2
            go_roundw
            case rel => exact ⟨t + 1, by have := HNN.out; omega, by go_num, HAN.out, HWN.out⟩
            case measure => have := HNN.out; simp [intOf]; omega
        · have HPL : Hid (plcCp (madeTo K X i) (⟨X.svc, s.next + (i : Nat), v, s.image, 1, false, ⟨#[]⟩⟩ : Cp) = t) := plc_eq _ _ t (by have := HX3.out.l1; omega) HAH.out (fun h => by have := HX3.out.l1; have := HNN.out; omega)
          go_upto_region 46 with fail
          refine region_class w3 (Below.refl _ _) (by kernel_rfl) (by kernel_rfl) ?_
          repeat (first
            | go_big_quiet_skip
            | (go_big_quiet_want; go_big_quiet_op; go_big_quiet_on))
          refine wpQuiet_nil ?_
          intro _ hw'
          obtain ⟨x6, hw''⟩ := hw'
          subst hw''
          obtain ⟨w4, hw4⟩ : ∃ w4, w4 = x6.W := ⟨_, rfl⟩
          have hok6 := x6.ok
          rw [← hw4] at hok6 ⊢
          have HA4 := hid (HA3.out.later hok6)
          have HX4 := hid (HX3.out.later hok6)
          have HB4 := hid ((hok6.block ps (lt_heap HB3.out)).trans HB3.out)
          have HP4 := hid ((hok6.block pc (lt_heap HP3.out)).trans HP3.out)
          have HLR4 : Hid (lo ≤ w4.heap.size) := Nat.le_trans HLR.out (Nat.le_trans HW5.out.size hok6.size)
          clear hw4 hok6
          clear PZ P2 hNE
          obtain ⟨A1, A2, cc2, hs4, hs12, hn1, hn2, hA1, hA2⟩ := cut_row (px := px) HX4.out.o1 HX4.out.l1 HX4.out.bx t (by have := HX4.out.l1; omega) HX4.out.m1
          have HLT : Hid (((madeTo K X i).take t).length = t ∧ ((madeTo K X i).drop t).length = K.cps.length + i - t) := by
            have e := HX4.out.l1
            exact ⟨by rw [List.length_take]; omega, by rw [List.length_drop]; omega⟩
          go_upto_region 48 with fail
          show Code.wp Tryz.prog r48 _ _ _
          refine region48 _ _ w4 px p1' A1 A2 (K.cps.length + i) q1' t (K.cps.length + i - t) cc2 (⟨X.svc, s.next + (i : Nat), v, s.image, 1, false, ⟨#[]⟩⟩ : Cp) pc K.now (.slice p0 K.svcs.length q0) (.slice p2 K.bts.length q2) (((madeTo K X i).take t).flatMap CpC) (((madeTo K X i).drop t).flatMap CpC) rfl rfl rfl rfl HX4.out.bx HP4.out (by have := HPX.out; omega) hs4 hs12 (by rw [flat_len CpC 7 CpC_len, HLT.out.1]) (by rw [flat_len CpC 7 CpC_len, HLT.out.2]) (CpC_one _) (CpC_one _) (by have := HRR.out; have := HLL2.out; omega) hn1 hn2 hA1 hA2 ?_
          intro W6 vs4 g cap hX6 hg6 hpx6 hO6
          clear hs4 hs12 hn1 hn2 hA1 hA2
          have HIN : Hid (insCp (madeTo K X i) (⟨X.svc, s.next + (i : Nat), v, s.image, 1, false, ⟨#[]⟩⟩ : Cp) = (madeTo K X i).take t ++ [(⟨X.svc, s.next + (i : Nat), v, s.image, 1, false, ⟨#[]⟩⟩ : Cp)] ++ (madeTo K X i).drop t) := by show _ = _; unfold insCp; rw [HPL.out]
          have HMD : Hid (madeTo K X (i + 1) = insCp (madeTo K X i) (⟨X.svc, s.next + (i : Nat), v, s.image, 1, false, ⟨#[]⟩⟩ : Cp)) := by show _ = _; rw [madeTo]; unfold newCp; rw [HS.out, ← HV.out]; rfl
          have HN1 : Hid (t + 1 + (K.cps.length + i - t) = K.cps.length + (i + 1)) := by show _ = _; have := HLL2.out; omega
          have HX6 : Hid (XI lo px W6 K.now K.svcs (madeTo K X (i + 1)) K.bts p0 (some ⟨g, 0, none⟩) p2 K.svcs.length (K.cps.length + (i + 1)) K.bts.length q0 cap q2) := by
            rw [HN1.out] at hpx6 hO6
            refine ⟨hpx6, owns_belx HX4.out.o0 hX6 HX4.out.bx t_sk, ?_, owns_belx HX4.out.o2 hX6 HX4.out.bx t_bk, HX4.out.l0, ?_, HX4.out.l2, HX4.out.z0, ?_, HX4.out.z2, HX4.out.m0, by have := HRR.out; omega, HX4.out.m2⟩
            · rw [HMD.out, HIN.out]
              have e : ((madeTo K X i).take t ++ [(⟨X.svc, s.next + (i : Nat), v, s.image, 1, false, ⟨#[]⟩⟩ : Cp)] ++ (madeTo K X i).drop t).flatMap CpC = ((madeTo K X i).take t).flatMap CpC ++ CpC (⟨X.svc, s.next + (i : Nat), v, s.image, 1, false, ⟨#[]⟩⟩ : Cp) ++ ((madeTo K X i).drop t).flatMap CpC := by
                rw [List.flatMap_append, List.flatMap_append]; simp
              rw [e]
              exact owns_lo hO6 (by have := HLR4.out; omega)
            · rw [HMD.out, ins_len, HX4.out.l1]; omega
            · rw [HMD.out]; exact ins_sized HX4.out.z1 ⟨HSZ.out, Nat.zero_le _⟩
          have HA6 := hid (HA4.out.belx hX6 HLO.out.2)
          have HB6 : Hid (W6.heap[ps]? = some (.cells #[.string s.nm, .int .i64 s.ver, .bool s.gone, .int .i64 s.image, .int .i64 tw, .int .i64 s.down, .int .i64 s.over, .int .i64 (s.next + (i : Nat)), .int .i64 s.per, .int .i64 s.least, .int .i64 s.most, .int .i64 s.load, .int .i64 tc] 86 (0, 0))) := (hX6.block ps (lt_heap HB4.out) HPS3.out.1).trans HB4.out
          have HPS6 : Hid (ps ≠ px ∧ w.heap.size + 3 ≤ ps ∧ (∀ g', p0 = some ⟨g', 0, none⟩ → g' ≠ ps) ∧ (∀ g', (some ⟨g, 0, none⟩ : Option Addr) = some ⟨g', 0, none⟩ → g' ≠ ps) ∧ (∀ g', p2 = some ⟨g', 0, none⟩ → g' ≠ ps)) := by
            refine ⟨HPS3.out.1, HPS3.out.2.1, HPS3.out.2.2.1, fun g' e => ?_, HPS3.out.2.2.2.2⟩
            injection e with e
            injection e with e
            have := lt_heap HB4.out
            omega
          clear hX6 hg6 hpx6 hO6
          simp only [ops48, r48, ap17, ap16, ap15, ap14, ap13, ap12, ap11, ap10, ap9, ap8, ap7, ap6, ap5, ap4, ap3, ap2, ap1, ap0, Tryz.f20, Option.getD_some, sfst_seq, ssnd_seq, sbody_block, sbody_loop, rops_region, RY.putAll, Act.put, List.setIfInBounds_toArray, List.set_cons_zero, List.set_cons_succ]
          generalize vs4 259 = z259
          generalize vs4 260 = z260
          generalize vs4 261 = z261
          generalize vs4 262 = z262
          generalize vs4 263 = z263
          generalize vs4 264 = z264
          generalize vs4 265 = z265
          generalize vs4 266 = z266
          generalize vs4 267 = z267
          generalize vs4 268 = z268
          generalize vs4 269 = z269
          generalize vs4 270 = z270
          generalize vs4 271 = z271
          generalize vs4 272 = z272
          generalize vs4 273 = z273
          have psz : ps < W6.heap.size := lt_heap HB6.out
          have psf : ∀ j, W6.frozen? ⟨ps, j, none⟩ = false := fun j => by simp [World.frozen?, HB6.out]
          have s7 : W6.cell? ⟨ps, 7, none⟩ = some (.int .i64 (s.next + (i : Nat))) := by simp [World.cell?, HB6.out]
          have h5 := heap_setCell_same W6 ps 7 _ _ (.int .i64 (s.next + (i : Nat) + 1)) HB6.out
          have HA5 := hid (HA6.out.sc HPS6.out.2.1 7 (.int .i64 (s.next + (i : Nat) + 1)))
          have HX5 := hid (HX6.out.scA HPS6.out.1 HPS6.out.2.2.1 HPS6.out.2.2.2.1 HPS6.out.2.2.2.2 7 (.int .i64 (s.next + (i : Nat) + 1)))
          have H5 := hid h5
          clear h5
          obtain ⟨w1, w2⟩ := HNB.out
          go_wp2
          go_roundw
          case rel =>
            refine ⟨i + 1, some ⟨g, 0, none⟩, cap, hlt, by go_num, HA5.out, HX5.out, HPS6.out, ?_⟩
            have e : s.next + ((i + 1 : Nat) : Int) = s.next + (i : Nat) + 1 := by omega
            rw [e, H5.out]; rfl
          case measure => simp [intOf]; omega

    · obtain rfl : i = X.create.toNat := by omega
      go_wp2
      refine seg18 K X a0 a1 a2 ae c0 c1 c2 ce w HH HK HOK k HIX HKL v HV lo px HLO le HLC HLL HSZ p0 p1' p2 q0 q1' q2 ps s HS tw tc HTW HTC _ HA1 HX1 HPS2 (hid ?_) HC _ _ _ _ _ _ _ _ _ _ _ _ _ _ _ _ _ _ _ _ _ _ _ _ _ _ _ _ _ _ _ _ _ _ _ _ _ _ _ _ _ _ _ _ _ _ _ _ _ _ _ _ _ _ _ _ _ _ _ _ _ _ _ _ _ _ _ _ _ _ _ _ _ _ _ _ _ _ _ _ _ _ _ _ _ _ _ _ _ _ _ _ _ _ _ _ _ _ _ _ _ _ _ _ _ _ _ _ _ _ _ _ _ _ _ _ _ _ _ _ _ _ _ _ _ _ _ _ _ _ _ _ _ _ _ _ _ _ _ _ _ _ _ _ _ _ _ _ _ _ _ _ _ _ _ _ _ _ _ _ _ _ _ _ _ _ _ _ _ _ _ _ _ _ _ _ _ _ _ _ _ _ _ _ _ _ _ _ _ _ _ _ _ _ _ _ _ _ _ _ _ _ _ _ _ _ _ _ _ _ _ _ _ _ _ _ _ _ _ _ _ _ _ _ _ _ _ _ _ _ _ _ _ _ _ _ _ _ _ _ _ _ _ _ _ _ _ _ _ _ _ _ _ _ _ _ _ _ _ _ _ _ _ _ _ _ _ _ _ _ _ _ _ _ _ _ _ _ _ _ _ _ _ _ _ _ _ _ _ _ _ _ _ _ _ _ 
      rw [HB1.out, r4]

set_option maxRecDepth 8000 in
set_option maxHeartbeats 40000000 in
theorem seg16 (K : SBk) (X : Ac) (a0 a1 a2 ae : Option Addr) (c0 c1 c2 ce : Nat) (w : World) (HH : Hid (SBkV w a0 a1 a2 K)) (HK : Hid (sbOk K = true)) (HOK : Hid (acOk X = true)) (k : Nat) (HIX : Hid (svIx K.svcs X.svc = k)) (HKL : Hid (k < K.svcs.length)) (v : Int) (HV : Hid (v = K.now + 1)) (lo px : Nat) (HLO : Hid (w.heap.size + 3 ≤ lo ∧ w.heap.size + 3 ≤ px)) (le : List Cp) (HLC : Hid (endCps K X = le)) (HLL : Hid (le.length = K.cps.length)) (HSZ : Hid (X.svc.size ≤ maxLen)) (p0 p1 p2 : Option Addr) (q0 q1 q2 : Nat) (ps : Nat) (s : Sv) (HS : Hid (acS K X = s)) (tw tc : Int) (HTW : Hid (tw = (acS2 K X).want)) (HTC : Hid (tc = (acS2 K X).cool)) (W : World) (HA : Hid (AI0 w W (.int .i64 K.now) (.slice a0 K.svcs.length c0) (.slice a1 K.cps.length c1) (.slice a2 K.bts.length c2) (.string X.svc) (.int .i64 X.seen) (.int .i64 X.create) (.int .i64 X.want) (.int .i64 X.cool) (.bool X.scale) (.slice ae X.ends.length ce) (.bool X.drop))) (HX : Hid (XI lo px W K.now K.svcs le K.bts p0 p1 p2 K.svcs.length K.cps.length K.bts.length q0 q1 q2)) (HPS : Hid (ps ≠ px ∧ w.heap.size + 3 ≤ ps ∧ (∀ g, p0 = some ⟨g, 0, none⟩ → g ≠ ps) ∧ (∀ g, p1 = some ⟨g, 0, none⟩ → g ≠ ps) ∧ (∀ g, p2 = some ⟨g, 0, none⟩ → g ≠ ps))) (HB : Hid (W.heap[ps]? = some (.cells #[.string s.nm, .int .i64 s.ver, .bool s.gone, .int .i64 s.image, .int .i64 tw, .int .i64 s.down, .int .i64 s.over, .int .i64 s.next, .int .i64 s.per, .int .i64 s.least, .int .i64 s.most, .int .i64 s.load, .int .i64 tc] 86 (0, 0)))) (HC : Hid (acCode K X = if roomBad K X then 7 else 0)) (u0 u1 u5 u7 u8 u11 u12 u14 u15 u16 u17 u18 u19 u20 u21 u22 u23 u24 u25 u26 u27 u28 u29 u30 u31 u32 u33 u34 u35 u36 u37 u38 u39 u40 u41 u42 u43 u44 u45 u46 u47 u48 u49 u50 u51 u52 u53 u54 u55 u56 u57 u58 u59 u60 u61 u62 u63 u64 u65 u66 u67 u68 u69 u70 u71 u72 u73 u74 u75 u76 u77 u78 u79 u80 u81 u82 u83 u84 u85 u86 u87 u88 u89 u90 u91 u92 u93 u94 u95 u96 u97 u98 u99 u100 u101 u102 u103 u104 u105 u106 u107 u108 u109 u110 u111 u112 u113 u114 u115 u116 u117 u118 u119 u120 u121 u122 u123 u124 u125 u126 u127 u128 u129 u130 u131 u132 u133 u134 u135 u136 u137 u138 u139 u140 u141 u142 u143 u144 u145 u146 u147 u148 u149 u150 u151 u152 u153 u154 u155 u156 u157 u158 u159 u160 u161 u162 u163 u164 u165 u166 u167 u168 u169 u170 u171 u172 u173 u174 u175 u176 u177 u178 u179 u180 u181 u182 u183 u184 u185 u186 u187 u188 u189 u190 u191 u192 u193 u194 u195 u196 u197 u198 u199 u200 u201 u202 u203 u204 u205 u206 u207 u208 u209 u210 u211 u212 u213 u214 u215 u216 u217 u218 u219 u220 u221 u222 u223 u224 u225 u226 u227 u228 u229 u230 u231 u232 u233 u234 u235 u236 u237 u238 u239 u240 u241 u242 u243 u244 u245 u246 u247 u248 u249 u250 u251 u252 u253 u254 u255 u256 u257 u258 u259 u260 u261 u262 u263 u264 u265 u266 u267 u268 u269 u270 u271 u272 u273 u274 u275 u276 u277 u278 u279 u280 u281 u282 u283 u284 u285 u286 u287 u288 u289 u290 u291 u292 u293 u294 u295 u296 u297 u298 u299 u300 u301 u302 : Value) : Code.wp Tryz.prog ap16 (ApQ K X w) { tmps := #[u0, u1, .pointer (some ⟨w.heap.size, 0, none⟩), .pointer (some ⟨w.heap.size + 1, 0, none⟩), .pointer (some ⟨w.heap.size + 1 + 1, 0, none⟩), u5, .int .i64 (k : Nat), u7, u8, .pointer (some ⟨px, 0, none⟩), .int .i64 v, u11, u12, .pointer (some ⟨ps, 0, none⟩), u14, u15, u16, u17, u18, u19, u20, u21, u22, u23, u24, u25, u26, u27, u28, u29, u30, u31, u32, u33, u34, u35, u36, u37, u38, u39, u40, u41, u42, u43, u44, u45, u46, u47, u48, u49, u50, u51, u52, u53, u54, u55, u56, u57, u58, u59, u60, u61, u62, u63, u64, u65, u66, u67, u68, u69, u70, u71, u72, u73, u74, u75, u76, u77, u78, u79, u80, u81, u82, u83, u84, u85, u86, u87, u88, u89, u90, u91, u92, u93, u94, u95, u96, u97, u98, u99, u100, u101, u102, u103, u104, u105, u106, u107, u108, u109, u110, u111, u112, u113, u114, u115, u116, u117, u118, u119, u120, u121, u122, u123, u124, u125, u126, u127, u128, u129, u130, u131, u132, u133, u134, u135, u136, u137, u138, u139, u140, u141, u142, u143, u144, u145, u146, u147, u148, u149, u150, u151, u152, u153, u154, u155, u156, u157, u158, u159, u160, u161, u162, u163, u164, u165, u166, u167, u168, u169, u170, u171, u172, u173, u174, u175, u176, u177, u178, u179, u180, u181, u182, u183, u184, u185, u186, u187, u188, u189, u190, u191, u192, u193, u194, u195, u196, u197, u198, u199, u200, u201, u202, u203, u204, u205, u206, u207, u208, u209, u210, u211, u212, u213, u214, u215, u216, u217, u218, u219, u220, u221, u222, u223, u224, u225, u226, u227, u228, u229, u230, u231, u232, u233, u234, u235, u236, u237, u238, u239, u240, u241, u242, u243, u244, u245, u246, u247, u248, u249, u250, u251, u252, u253, u254, u255, u256, u257, u258, u259, u260, u261, u262, u263, u264, u265, u266, u267, u268, u269, u270, u271, u272, u273, u274, u275, u276, u277, u278, u279, u280, u281, u282, u283, u284, u285, u286, u287, u288, u289, u290, u291, u292, u293, u294, u295, u296, u297, u298, u299, u300, u301, u302], defers := [] } W := by
  have hun := And.intro HH (And.intro HK (And.intro HOK (And.intro HIX (And.intro HKL (And.intro HV (And.intro HLO (And.intro HLC (And.intro HLL HSZ))))))))
  clear hun
  unfold ApQ
  rw [ap16_17]
  simp only [ap16, ap15, ap14, ap13, ap12, ap11, ap10, ap9, ap8, ap7, ap6, ap5, ap4, ap3, ap2, ap1, ap0, Tryz.f20, Option.getD_some, sfst_seq, ssnd_seq]
  have HSM : Hid (K.svcs.length ≤ 1048576 ∧ K.cps.length ≤ 1048576 ∧ K.bts.length ≤ 1048576) := by
    have q := HK.out
    simp only [sbOk, Bool.and_eq_true, decide_eq_true_eq] at q
    exact ⟨by omega, by omega, by omega⟩
  have HSN := hid (sane_ok HK.out)
  have HAO2 := hid (ac_bounds HOK.out)
  have hsk : K.svcs.getD k Sv.none = s := by rw [← HS.out]; unfold acS svGet; rw [HIX.out, Int.toNat_natCast]
  have HNX := hid (next_of_ok HK.out k HKL.out)
  rw [hsk] at HNX
  have HNUM := hid (HSN.out.num k HKL.out)
  rw [hsk] at HNUM
  have HBW : Hid (0 ≤ tw ∧ tw ≤ 10) := by
    show _ ∧ _
    rw [HTW.out]
    unfold acS2
    split
    · rename_i e; exact HAO2.out.2.2 e
    · rw [HS.out]; exact ⟨HNUM.out.1, HNUM.out.2.1⟩
  clear hsk
  obtain ⟨az, b0, b1, b2, b3, b4, b5, b6, b7⟩ := HA.out.ax
  obtain ⟨yz, y0, y1, y2, y3⟩ := HA.out.bx
  have psz : ps < W.heap.size := lt_heap HB.out
  have s7 : W.cell? ⟨ps, 7, none⟩ = some (.int .i64 s.next) := by simp [World.cell?, HB.out]
  obtain ⟨v3, v4, _, _⟩ := HNX.out
  have v5 := HAO2.out.1
  have v6 := HAO2.out.2.1
  have hm1 := HSM.out.2.1
  have HRB : Hid (roomBad K X = (decide (200 < (K.cps.length : Int) + X.create) || decide (1000000 < s.next + X.create) || decide (1000000 ≤ K.now))) := by show _ = _; unfold roomBad; rw [HS.out]
  by_cases g1 : 200 < (K.cps.length : Int) + X.create
  · have HR := hid (ret_of 7 (by rw [HC.out, HRB.out, decide_eq_true g1]; rfl) (by omega))
    go_upto_region 40 with fail
    clear yz y0 y1 y2 y3
    obtain ⟨yz, y0, y1, y2, y3⟩ := HA.out.bx
    have hfz := HA.out.own.frozen
    have hz := HA.out.own.lt
    obtain ⟨u0, k0⟩ := HA.out.own.cell 0 (by omega)
    obtain ⟨u1, k1⟩ := HA.out.own.cell 1 (by omega)
    obtain ⟨u2, k2⟩ := HA.out.own.cell 2 (by omega)
    obtain ⟨u3, k3⟩ := HA.out.own.cell 3 (by omega)
    go_wp2
    have p := fun i hi => puts_at 0 [.int .i64 K.now, .slice a0 K.svcs.length c0, .slice a1 K.cps.length c1, .slice a2 K.bts.length c2] W 0 HA.out.own (by simp) i hi
    have t0 := p 0 (by simp)
    have t1 := p 1 (by simp)
    have t2 := p 2 (by simp)
    have t3 := p 3 (by simp)
    simp only [puts, Nat.add_zero, Nat.zero_add, Nat.reduceAdd, List.getElem?_cons_zero, List.getElem?_cons_succ] at t0 t1 t2 t3
    have hbl := puts_below (a := w) 0 (B := w.heap.size + 2) (by omega) [.int .i64 K.now, .slice a0 K.svcs.length c0, .slice a1 K.cps.length c1, .slice a2 K.bts.length c2] W 0 HA.out.below
    refine bodyPost_ret (v := .tuple #[.agg #[.int .i64 K.now, .slice a0 K.svcs.length c0, .slice a1 K.cps.length c1, .slice a2 K.bts.length c2], .int .i64 7]) (by simp [results, go_sem, t0, t1, t2, t3]) rfl ⟨?_, hbl⟩
    rw [HR.out.1, HR.out.2]
    refine ⟨a0, a1, a2, ?_⟩
    first | exact ⟨c0, c1, c2, rfl, HH.out.later hbl⟩ | exact ⟨⟨c0, c1, c2, rfl⟩, HH.out.later hbl⟩

  by_cases g2 : 1000000 < s.next + X.create
  · have HR := hid (ret_of 7 (by rw [HC.out, HRB.out, decide_eq_true g2]; simp) (by omega))
    go_upto_region 40 with fail
    clear yz y0 y1 y2 y3
    obtain ⟨yz, y0, y1, y2, y3⟩ := HA.out.bx
    have hfz := HA.out.own.frozen
    have hz := HA.out.own.lt
    obtain ⟨u0, k0⟩ := HA.out.own.cell 0 (by omega)
    obtain ⟨u1, k1⟩ := HA.out.own.cell 1 (by omega)
    obtain ⟨u2, k2⟩ := HA.out.own.cell 2 (by omega)
    obtain ⟨u3, k3⟩ := HA.out.own.cell 3 (by omega)
    go_wp2
    have p := fun i hi => puts_at 0 [.int .i64 K.now, .slice a0 K.svcs.length c0, .slice a1 K.cps.length c1, .slice a2 K.bts.length c2] W 0 HA.out.own (by simp) i hi
    have t0 := p 0 (by simp)
    have t1 := p 1 (by simp)
    have t2 := p 2 (by simp)
    have t3 := p 3 (by simp)
    simp only [puts, Nat.add_zero, Nat.zero_add, Nat.reduceAdd, List.getElem?_cons_zero, List.getElem?_cons_succ] at t0 t1 t2 t3
    have hbl := puts_below (a := w) 0 (B := w.heap.size + 2) (by omega) [.int .i64 K.now, .slice a0 K.svcs.length c0, .slice a1 K.cps.length c1, .slice a2 K.bts.length c2] W 0 HA.out.below
    refine bodyPost_ret (v := .tuple #[.agg #[.int .i64 K.now, .slice a0 K.svcs.length c0, .slice a1 K.cps.length c1, .slice a2 K.bts.length c2], .int .i64 7]) (by simp [results, go_sem, t0, t1, t2, t3]) rfl ⟨?_, hbl⟩
    rw [HR.out.1, HR.out.2]
    refine ⟨a0, a1, a2, ?_⟩
    first | exact ⟨c0, c1, c2, rfl, HH.out.later hbl⟩ | exact ⟨⟨c0, c1, c2, rfl⟩, HH.out.later hbl⟩

  by_cases g3 : 1000000 ≤ K.now
  · have HR := hid (ret_of 7 (by rw [HC.out, HRB.out, decide_eq_true g3]; simp) (by omega))
    go_upto_region 40 with fail
    clear yz y0 y1 y2 y3
    obtain ⟨yz, y0, y1, y2, y3⟩ := HA.out.bx
    have hfz := HA.out.own.frozen
    have hz := HA.out.own.lt
    obtain ⟨u0, k0⟩ := HA.out.own.cell 0 (by omega)
    obtain ⟨u1, k1⟩ := HA.out.own.cell 1 (by omega)
    obtain ⟨u2, k2⟩ := HA.out.own.cell 2 (by omega)
    obtain ⟨u3, k3⟩ := HA.out.own.cell 3 (by omega)
    go_wp2
    have p := fun i hi => puts_at 0 [.int .i64 K.now, .slice a0 K.svcs.length c0, .slice a1 K.cps.length c1, .slice a2 K.bts.length c2] W 0 HA.out.own (by simp) i hi
    have t0 := p 0 (by simp)
    have t1 := p 1 (by simp)
    have t2 := p 2 (by simp)
    have t3 := p 3 (by simp)
    simp only [puts, Nat.add_zero, Nat.zero_add, Nat.reduceAdd, List.getElem?_cons_zero, List.getElem?_cons_succ] at t0 t1 t2 t3
    have hbl := puts_below (a := w) 0 (B := w.heap.size + 2) (by omega) [.int .i64 K.now, .slice a0 K.svcs.length c0, .slice a1 K.cps.length c1, .slice a2 K.bts.length c2] W 0 HA.out.below
    refine bodyPost_ret (v := .tuple #[.agg #[.int .i64 K.now, .slice a0 K.svcs.length c0, .slice a1 K.cps.length c1, .slice a2 K.bts.length c2], .int .i64 7]) (by simp [results, go_sem, t0, t1, t2, t3]) rfl ⟨?_, hbl⟩
    rw [HR.out.1, HR.out.2]
    refine ⟨a0, a1, a2, ?_⟩
    first | exact ⟨c0, c1, c2, rfl, HH.out.later hbl⟩ | exact ⟨⟨c0, c1, c2, rfl⟩, HH.out.later hbl⟩

  have HRF : Hid (roomBad K X = false) := by show _ = _; rw [HRB.out, decide_eq_false g1, decide_eq_false g2, decide_eq_false g3]; rfl
  go_wp2
  exact seg17 K X a0 a1 a2 ae c0 c1 c2 ce w HH HK HOK k HIX HKL v HV lo px HLO le HLC HLL HSZ p0 p1 p2 q0 q1 q2 ps s HS tw tc HTW HTC W HA HX HPS HB (hid (by rw [HC.out, HRF.out]; rfl)) HRF _ _ _ _ _ _ _ _ _ _ _ _ _ _ _ _ _ _ _ _ _ _ _ _ _ _ _ _ _ _ _ _ _ _ _ _ _ _ _ _ _ _ _ _ _ _ _ _ _ _ _ _ _ _ _ _ _ _ _ _ _ _ _ _ _ _ _ _ _ _ _ _ _ _ _ _ _ _ _ _ _ _ _ _ _ _ _ _ _ _ _ _ _ _ _ _ _ _ _ _ _ _ _ _ _ _ _ _ _ _ _ _ _ _ _ _ _ _ _ _ _ _ _ _ _ _ _ _ _ _ _ _ _ _ _ _ _ _ _ _ _ _ _ _ _ _ _ _ _ _ _ _ _ _ _ _ _ _ _ _ _ _ _ _ _ _ _ _ _ _ _ _ _ _ _ _ _ _ _ _ _ _ _ _ _ _ _ _ _ _ _ _ _ _ _ _ _ _ _ _ _ _ _ _ _ _ _ _ _ _ _ _ _ _ _ _ _ _ _ _ _ _ _ _ _ _ _ _ _ _ _ _ _ _ _ _ _ _ _ _ _ _ _ _ _ _ _ _ _ _ _ _ _ _ _ _ _ _ _ _ _ _ _ _ _ _ _ _ _ _ _ _ _ _ _ _ _ _ _ _ _ _ _ _ _ _ _ _ _ _ _ _ _ _ _ _ 

set_option maxRecDepth 8000 in
set_option maxHeartbeats 40000000 in
theorem seg15 (K : SBk) (X : Ac) (a0 a1 a2 ae : Option Addr) (c0 c1 c2 ce : Nat) (w : World) (HH : Hid (SBkV w a0 a1 a2 K)) (HK : Hid (sbOk K = true)) (HOK : Hid (acOk X = true)) (k : Nat) (HIX : Hid (svIx K.svcs X.svc = k)) (HKL : Hid (k < K.svcs.length)) (v : Int) (HV : Hid (v = K.now + 1)) (lo px : Nat) (HLO : Hid (w.heap.size + 3 ≤ lo ∧ w.heap.size + 3 ≤ px)) (le : List Cp) (HLC : Hid (endCps K X = le)) (HLL : Hid (le.length = K.cps.length)) (HSZ : Hid (X.svc.size ≤ maxLen)) (p0 p1 p2 : Option Addr) (q0 q1 q2 : Nat) (ps : Nat) (s : Sv) (HS : Hid (acS K X = s)) (tw tc : Int) (HTW : Hid (tw = (acS2 K X).want)) (HTC : Hid (tc = (acS2 K X).cool)) (W : World) (HA : Hid (AI0 w W (.int .i64 K.now) (.slice a0 K.svcs.length c0) (.slice a1 K.cps.length c1) (.slice a2 K.bts.length c2) (.string X.svc) (.int .i64 X.seen) (.int .i64 X.create) (.int .i64 X.want) (.int .i64 X.cool) (.bool X.scale) (.slice ae X.ends.length ce) (.bool X.drop))) (HX : Hid (XI lo px W K.now K.svcs le K.bts p0 p1 p2 K.svcs.length K.cps.length K.bts.length q0 q1 q2)) (HPS : Hid (ps ≠ px ∧ w.heap.size + 3 ≤ ps ∧ (∀ g, p0 = some ⟨g, 0, none⟩ → g ≠ ps) ∧ (∀ g, p1 = some ⟨g, 0, none⟩ → g ≠ ps) ∧ (∀ g, p2 = some ⟨g, 0, none⟩ → g ≠ ps))) (HB : Hid (W.heap[ps]? = some (.cells #[.string s.nm, .int .i64 s.ver, .bool s.gone, .int .i64 s.image, .int .i64 tw, .int .i64 s.down, .int .i64 s.over, .int .i64 s.next, .int .i64 s.per, .int .i64 s.least, .int .i64 s.most, .int .i64 s.load, .int .i64 tc] 86 (0, 0)))) (HC : Hid (acCode K X = if scaleBad K X then 6 else if roomBad K X then 7 else 0)) (u0 u1 u5 u7 u8 u11 u12 u14 u15 u16 u17 u18 u19 u20 u21 u22 u23 u24 u25 u26 u27 u28 u29 u30 u31 u32 u33 u34 u35 u36 u37 u38 u39 u40 u41 u42 u43 u44 u45 u46 u47 u48 u49 u50 u51 u52 u53 u54 u55 u56 u57 u58 u59 u60 u61 u62 u63 u64 u65 u66 u67 u68 u69 u70 u71 u72 u73 u74 u75 u76 u77 u78 u79 u80 u81 u82 u83 u84 u85 u86 u87 u88 u89 u90 u91 u92 u93 u94 u95 u96 u97 u98 u99 u100 u101 u102 u103 u104 u105 u106 u107 u108 u109 u110 u111 u112 u113 u114 u115 u116 u117 u118 u119 u120 u121 u122 u123 u124 u125 u126 u127 u128 u129 u130 u131 u132 u133 u134 u135 u136 u137 u138 u139 u140 u141 u142 u143 u144 u145 u146 u147 u148 u149 u150 u151 u152 u153 u154 u155 u156 u157 u158 u159 u160 u161 u162 u163 u164 u165 u166 u167 u168 u169 u170 u171 u172 u173 u174 u175 u176 u177 u178 u179 u180 u181 u182 u183 u184 u185 u186 u187 u188 u189 u190 u191 u192 u193 u194 u195 u196 u197 u198 u199 u200 u201 u202 u203 u204 u205 u206 u207 u208 u209 u210 u211 u212 u213 u214 u215 u216 u217 u218 u219 u220 u221 u222 u223 u224 u225 u226 u227 u228 u229 u230 u231 u232 u233 u234 u235 u236 u237 u238 u239 u240 u241 u242 u243 u244 u245 u246 u247 u248 u249 u250 u251 u252 u253 u254 u255 u256 u257 u258 u259 u260 u261 u262 u263 u264 u265 u266 u267 u268 u269 u270 u271 u272 u273 u274 u275 u276 u277 u278 u279 u280 u281 u282 u283 u284 u285 u286 u287 u288 u289 u290 u291 u292 u293 u294 u295 u296 u297 u298 u299 u300 u301 u302 : Value) : Code.wp Tryz.prog ap15 (ApQ K X w) { tmps := #[u0, u1, .pointer (some ⟨w.heap.size, 0, none⟩), .pointer (some ⟨w.heap.size + 1, 0, none⟩), .pointer (some ⟨w.heap.size + 1 + 1, 0, none⟩), u5, .int .i64 (k : Nat), u7, u8, .pointer (some ⟨px, 0, none⟩), .int .i64 v, u11, u12, .pointer (some ⟨ps, 0, none⟩), u14, u15, u16, u17, u18, u19, u20, u21, u22, u23, u24, u25, u26, u27, u28, u29, u30, u31, u32, u33, u34, u35, u36, u37, u38, u39, u40, u41, u42, u43, u44, u45, u46, u47, u48, u49, u50, u51, u52, u53, u54, u55, u56, u57, u58, u59, u60, u61, u62, u63, u64, u65, u66, u67, u68, u69, u70, u71, u72, u73, u74, u75, u76, u77, u78, u79, u80, u81, u82, u83, u84, u85, u86, u87, u88, u89, u90, u91, u92, u93, u94, u95, u96, u97, u98, u99, u100, u101, u102, u103, u104, u105, u106, u107, u108, u109, u110, u111, u112, u113, u114, u115, u116, u117, u118, u119, u120, u121, u122, u123, u124, u125, u126, u127, u128, u129, u130, u131, u132, u133, u134, u135, u136, u137, u138, u139, u140, u141, u142, u143, u144, u145, u146, u147, u148, u149, u150, u151, u152, u153, u154, u155, u156, u157, u158, u159, u160, u161, u162, u163, u164, u165, u166, u167, u168, u169, u170, u171, u172, u173, u174, u175, u176, u177, u178, u179, u180, u181, u182, u183, u184, u185, u186, u187, u188, u189, u190, u191, u192, u193, u194, u195, u196, u197, u198, u199, u200, u201, u202, u203, u204, u205, u206, u207, u208, u209, u210, u211, u212, u213, u214, u215, u216, u217, u218, u219, u220, u221, u222, u223, u224, u225, u226, u227, u228, u229, u230, u231, u232, u233, u234, u235, u236, u237, u238, u239, u240, u241, u242, u243, u244, u245, u246, u247, u248, u249, u250, u251, u252, u253, u254, u255, u256, u257, u258, u259, u260, u261, u262, u263, u264, u265, u266, u267, u268, u269, u270, u271, u272, u273, u274, u275, u276, u277, u278, u279, u280, u281, u282, u283, u284, u285, u286, u287, u288, u289, u290, u291, u292, u293, u294, u295, u296, u297, u298, u299, u300, u301, u302], defers := [] } W := by
  have hun := And.intro HH (And.intro HK (And.intro HOK (And.intro HIX (And.intro HKL (And.intro HV (And.intro HLO (And.intro HLC (And.intro HLL HSZ))))))))
  clear hun
  unfold ApQ
  rw [ap15_16]
  simp only [ap15, ap14, ap13, ap12, ap11, ap10, ap9, ap8, ap7, ap6, ap5, ap4, ap3, ap2, ap1, ap0, Tryz.f20, Option.getD_some, sfst_seq, ssnd_seq]
  obtain ⟨az, b0, b1, b2, b3, b4, b5, b6, b7⟩ := HA.out.ax
  have psz : ps < W.heap.size := lt_heap HB.out
  have s8 : W.cell? ⟨ps, 8, none⟩ = some (.int .i64 s.per) := by simp [World.cell?, HB.out]
  have s9 : W.cell? ⟨ps, 9, none⟩ = some (.int .i64 s.least) := by simp [World.cell?, HB.out]
  have s10 : W.cell? ⟨ps, 10, none⟩ = some (.int .i64 s.most) := by simp [World.cell?, HB.out]
  have HSB : Hid (scaleBad K X = (X.scale && (s.per == 0 || !inB X.want s.least s.most))) := by show _ = _; unfold scaleBad; rw [HS.out]
  rcases Bool.eq_false_or_eq_true X.scale with hsc | hsc
  · rw [hsc] at b5
    cases hp : (s.per == 0)
    · cases hi : inB X.want s.least s.most
      · have HR := hid (ret_of 6 (by rw [HC.out, HSB.out, hsc, hp, hi]; rfl) (by omega))
        clear hsc
        go_upto_region 38 with (first | (go_at_call 44; refine (l12InS _ _ _ _).mono ?_; rintro e w' ⟨rfl, rfl⟩))
        obtain ⟨yz, y0, y1, y2, y3⟩ := HA.out.bx
        have hfz := HA.out.own.frozen
        have hz := HA.out.own.lt
        obtain ⟨u0, k0⟩ := HA.out.own.cell 0 (by omega)
        obtain ⟨u1, k1⟩ := HA.out.own.cell 1 (by omega)
        obtain ⟨u2, k2⟩ := HA.out.own.cell 2 (by omega)
        obtain ⟨u3, k3⟩ := HA.out.own.cell 3 (by omega)
        go_wp2
        have p := fun i hi => puts_at 0 [.int .i64 K.now, .slice a0 K.svcs.length c0, .slice a1 K.cps.length c1, .slice a2 K.bts.length c2] W 0 HA.out.own (by simp) i hi
        have t0 := p 0 (by simp)
        have t1 := p 1 (by simp)
        have t2 := p 2 (by simp)
        have t3 := p 3 (by simp)
        simp only [puts, Nat.add_zero, Nat.zero_add, Nat.reduceAdd, List.getElem?_cons_zero, List.getElem?_cons_succ] at t0 t1 t2 t3
        have hbl := puts_below (a := w) 0 (B := w.heap.size + 2) (by omega) [.int .i64 K.now, .slice a0 K.svcs.length c0, .slice a1 K.cps.length c1, .slice a2 K.bts.length c2] W 0 HA.out.below
        refine bodyPost_ret (v := .tuple #[.agg #[.int .i64 K.now, .slice a0 K.svcs.length c0, .slice a1 K.cps.length c1, .slice a2 K.bts.length c2], .int .i64 6]) (by simp [results, go_sem, t0, t1, t2, t3]) rfl ⟨?_, hbl⟩
        rw [HR.out.1, HR.out.2]
        refine ⟨a0, a1, a2, ?_⟩
        first | exact ⟨c0, c1, c2, rfl, HH.out.later hbl⟩ | exact ⟨⟨c0, c1, c2, rfl⟩, HH.out.later hbl⟩
      · have HF := hid (show scaleBad K X = false by rw [HSB.out, hsc, hp, hi]; rfl)
        clear hsc
        go_wp2_with (first | (go_at_call 44; refine (l12InS _ _ _ _).mono ?_; rintro e w' ⟨rfl, rfl⟩))
        exact seg16 K X a0 a1 a2 ae c0 c1 c2 ce w HH HK HOK k HIX HKL v HV lo px HLO le HLC HLL HSZ p0 p1 p2 q0 q1 q2 ps s HS tw tc HTW HTC W HA HX HPS HB (hid (by rw [HC.out, HF.out]; rfl)) _ _ _ _ _ _ _ _ _ _ _ _ _ _ _ _ _ _ _ _ _ _ _ _ _ _ _ _ _ _ _ _ _ _ _ _ _ _ _ _ _ _ _ _ _ _ _ _ _ _ _ _ _ _ _ _ _ _ _ _ _ _ _ _ _ _ _ _ _ _ _ _ _ _ _ _ _ _ _ _ _ _ _ _ _ _ _ _ _ _ _ _ _ _ _ _ _ _ _ _ _ _ _ _ _ _ _ _ _ _ _ _ _ _ _ _ _ _ _ _ _ _ _ _ _ _ _ _ _ _ _ _ _ _ _ _ _ _ _ _ _ _ _ _ _ _ _ _ _ _ _ _ _ _ _ _ _ _ _ _ _ _ _ _ _ _ _ _ _ _ _ _ _ _ _ _ _ _ _ _ _ _ _ _ _ _ _ _ _ _ _ _ _ _ _ _ _ _ _ _ _ _ _ _ _ _ _ _ _ _ _ _ _ _ _ _ _ _ _ _ _ _ _ _ _ _ _ _ _ _ _ _ _ _ _ _ _ _ _ _ _ _ _ _ _ _ _ _ _ _ _ _ _ _ _ _ _ _ _ _ _ _ _ _ _ _ _ _ _ _ _ _ _ _ _ _ _ _ _ _ _ _ _ _ _ _ _ _ _ _ _ _ _ _ _ _ 
    · have HR := hid (ret_of 6 (by rw [HC.out, HSB.out, hsc, hp]; rfl) (by omega))
      clear hsc
      go_upto_region 38 with fail
      obtain ⟨yz, y0, y1, y2, y3⟩ := HA.out.bx
      have hfz := HA.out.own.frozen
      have hz := HA.out.own.lt
      obtain ⟨u0, k0⟩ := HA.out.own.cell 0 (by omega)
      obtain ⟨u1, k1⟩ := HA.out.own.cell 1 (by omega)
      obtain ⟨u2, k2⟩ := HA.out.own.cell 2 (by omega)
      obtain ⟨u3, k3⟩ := HA.out.own.cell 3 (by omega)
      go_wp2
      have p := fun i hi => puts_at 0 [.int .i64 K.now, .slice a0 K.svcs.length c0, .slice a1 K.cps.length c1, .slice a2 K.bts.length c2] W 0 HA.out.own (by simp) i hi
      have t0 := p 0 (by simp)
      have t1 := p 1 (by simp)
      have t2 := p 2 (by simp)
      have t3 := p 3 (by simp)
      simp only [puts, Nat.add_zero, Nat.zero_add, Nat.reduceAdd, List.getElem?_cons_zero, List.getElem?_cons_succ] at t0 t1 t2 t3
      have hbl := puts_below (a := w) 0 (B := w.heap.size + 2) (by omega) [.int .i64 K.now, .slice a0 K.svcs.length c0, .slice a1 K.cps.length c1, .slice a2 K.bts.length c2] W 0 HA.out.below
      refine bodyPost_ret (v := .tuple #[.agg #[.int .i64 K.now, .slice a0 K.svcs.length c0, .slice a1 K.cps.length c1, .slice a2 K.bts.length c2], .int .i64 6]) (by simp [results, go_sem, t0, t1, t2, t3]) rfl ⟨?_, hbl⟩
      rw [HR.out.1, HR.out.2]
      refine ⟨a0, a1, a2, ?_⟩
      first | exact ⟨c0, c1, c2, rfl, HH.out.later hbl⟩ | exact ⟨⟨c0, c1, c2, rfl⟩, HH.out.later hbl⟩

  · rw [hsc] at b5
    have HF := hid (show scaleBad K X = false by rw [HSB.out, hsc]; rfl)
    clear hsc
    go_wp2
    exact seg16 K X a0 a1 a2 ae c0 c1 c2 ce w HH HK HOK k HIX HKL v HV lo px HLO le HLC HLL HSZ p0 p1 p2 q0 q1 q2 ps s HS tw tc HTW HTC W HA HX HPS HB (hid (by rw [HC.out, HF.out]; rfl)) _ _ _ _ _ _ _ _ _ _ _ _ _ _ _ _ _ _ _ _ _ _ _ _ _ _ _ _ _ _ _ _ _ _ _ _ _ _ _ _ _ _ _ _ _ _ _ _ _ _ _ _ _ _ _ _ _ _ _ _ _ _ _ _ _ _ _ _ _ _ _ _ _ _ _ _ _ _ _ _ _ _ _ _ _ _ _ _ _ _ _ _ _ _ _ _ _ _ _ _ _ _ _ _ _ _ _ _ _ _ _ _ _ _ _ _ _ _ _ _ _ _ _ _ _ _ _ _ _ _ _ _ _ _ _ _ _ _ _ _ _ _ _ _ _ _ _ _ _ _ _ _ _ _ _ _ _ _ _ _ _ _ _ _ _ _ _ _ _ _ _ _ _ _ _ _ _ _ _ _ _ _ _ _ _ _ _ _ _ _ _ _ _ _ _ _ _ _ _ _ _ _ _ _ _ _ _ _ _ _ _ _ _ _ _ _ _ _ _ _ _ _ _ _ _ _ _ _ _ _ _ _ _ _ _ _ _ _ _ _ _ _ _ _ _ _ _ _ _ _ _ _ _ _ _ _ _ _ _ _ _ _ _ _ _ _ _ _ _ _ _ _ _ _ _ _ _ _ _ _ _ _ _ _ _ _ _ _ _ _ _ _ _ _ _ _ 

set_option maxRecDepth 8000 in
set_option maxHeartbeats 40000000 in
theorem seg14 (K : SBk) (X : Ac) (a0 a1 a2 ae : Option Addr) (c0 c1 c2 ce : Nat) (w : World) (HH : Hid (SBkV w a0 a1 a2 K)) (HK : Hid (sbOk K = true)) (HOK : Hid (acOk X = true)) (k : Nat) (HIX : Hid (svIx K.svcs X.svc = k)) (HKL : Hid (k < K.svcs.length)) (v : Int) (HV : Hid (v = K.now + 1)) (lo px : Nat) (HLO : Hid (w.heap.size + 3 ≤ lo ∧ w.heap.size + 3 ≤ px)) (le : List Cp) (HLC : Hid (endCps K X = le)) (HLL : Hid (le.length = K.cps.length)) (HSZ : Hid (X.svc.size ≤ maxLen)) (p0 p1 p2 : Option Addr) (q0 q1 q2 : Nat) (ps : Nat) (s : Sv) (HS : Hid (acS K X = s)) (tw tc : Int) (HTW : Hid (tw = (acS2 K X).want)) (HTC : Hid (tc = (acS2 K X).cool)) (W : World) (HA : Hid (AI0 w W (.int .i64 K.now) (.slice a0 K.svcs.length c0) (.slice a1 K.cps.length c1) (.slice a2 K.bts.length c2) (.string X.svc) (.int .i64 X.seen) (.int .i64 X.create) (.int .i64 X.want) (.int .i64 X.cool) (.bool X.scale) (.slice ae X.ends.length ce) (.bool X.drop))) (HX : Hid (XI lo px W K.now K.svcs le K.bts p0 p1 p2 K.svcs.length K.cps.length K.bts.length q0 q1 q2)) (HPS : Hid (ps ≠ px ∧ w.heap.size + 3 ≤ ps ∧ (∀ g, p0 = some ⟨g, 0, none⟩ → g ≠ ps) ∧ (∀ g, p1 = some ⟨g, 0, none⟩ → g ≠ ps) ∧ (∀ g, p2 = some ⟨g, 0, none⟩ → g ≠ ps))) (HB : Hid (W.heap[ps]? = some (.cells #[.string s.nm, .int .i64 s.ver, .bool s.gone, .int .i64 s.image, .int .i64 tw, .int .i64 s.down, .int .i64 s.over, .int .i64 s.next, .int .i64 s.per, .int .i64 s.least, .int .i64 s.most, .int .i64 s.load, .int .i64 tc] 86 (0, 0)))) (HC : Hid (acCode K X = if makeBad K X then 6 else if scaleBad K X then 6 else if roomBad K X then 7 else 0)) (u0 u1 u5 u7 u8 u11 u12 u14 u15 u16 u17 u18 u19 u20 u21 u22 u23 u24 u25 u26 u27 u28 u29 u30 u31 u32 u33 u34 u35 u36 u37 u38 u39 u40 u41 u42 u43 u44 u45 u46 u47 u48 u49 u50 u51 u52 u53 u54 u55 u56 u57 u58 u59 u60 u61 u62 u63 u64 u65 u66 u67 u68 u69 u70 u71 u72 u73 u74 u75 u76 u77 u78 u79 u80 u81 u82 u83 u84 u85 u86 u87 u88 u89 u90 u91 u92 u93 u94 u95 u96 u97 u98 u99 u100 u101 u102 u103 u104 u105 u106 u107 u108 u109 u110 u111 u112 u113 u114 u115 u116 u117 u118 u119 u120 u121 u122 u123 u124 u125 u126 u127 u128 u129 u130 u131 u132 u133 u134 u135 u136 u137 u138 u139 u140 u141 u142 u143 u144 u145 u146 u147 u148 u149 u150 u151 u152 u153 u154 u155 u156 u157 u158 u159 u160 u161 u162 u163 u164 u165 u166 u167 u168 u169 u170 u171 u172 u173 u174 u175 u176 u177 u178 u179 u180 u181 u182 u183 u184 u185 u186 u187 u188 u189 u190 u191 u192 u193 u194 u195 u196 u197 u198 u199 u200 u201 u202 u203 u204 u205 u206 u207 u208 u209 u210 u211 u212 u213 u214 u215 u216 u217 u218 u219 u220 u221 u222 u223 u224 u225 u226 u227 u228 u229 u230 u231 u232 u233 u234 u235 u236 u237 u238 u239 u240 u241 u242 u243 u244 u245 u246 u247 u248 u249 u250 u251 u252 u253 u254 u255 u256 u257 u258 u259 u260 u261 u262 u263 u264 u265 u266 u267 u268 u269 u270 u271 u272 u273 u274 u275 u276 u277 u278 u279 u280 u281 u282 u283 u284 u285 u286 u287 u288 u289 u290 u291 u292 u293 u294 u295 u296 u297 u298 u299 u300 u301 u302 : Value) : Code.wp Tryz.prog ap14 (ApQ K X w) { tmps := #[u0, u1, .pointer (some ⟨w.heap.size, 0, none⟩), .pointer (some ⟨w.heap.size + 1, 0, none⟩), .pointer (some ⟨w.heap.size + 1 + 1, 0, none⟩), u5, .int .i64 (k : Nat), u7, u8, .pointer (some ⟨px, 0, none⟩), .int .i64 v, u11, u12, .pointer (some ⟨ps, 0, none⟩), u14, u15, u16, u17, u18, u19, u20, u21, u22, u23, u24, u25, u26, u27, u28, u29, u30, u31, u32, u33, u34, u35, u36, u37, u38, u39, u40, u41, u42, u43, u44, u45, u46, u47, u48, u49, u50, u51, u52, u53, u54, u55, u56, u57, u58, u59, u60, u61, u62, u63, u64, u65, u66, u67, u68, u69, u70, u71, u72, u73, u74, u75, u76, u77, u78, u79, u80, u81, u82, u83, u84, u85, u86, u87, u88, u89, u90, u91, u92, u93, u94, u95, u96, u97, u98, u99, u100, u101, u102, u103, u104, u105, u106, u107, u108, u109, u110, u111, u112, u113, u114, u115, u116, u117, u118, u119, u120, u121, u122, u123, u124, u125, u126, u127, u128, u129, u130, u131, u132, u133, u134, u135, u136, u137, u138, u139, u140, u141, u142, u143, u144, u145, u146, u147, u148, u149, u150, u151, u152, u153, u154, u155, u156, u157, u158, u159, u160, u161, u162, u163, u164, u165, u166, u167, u168, u169, u170, u171, u172, u173, u174, u175, u176, u177, u178, u179, u180, u181, u182, u183, u184, u185, u186, u187, u188, u189, u190, u191, u192, u193, u194, u195, u196, u197, u198, u199, u200, u201, u202, u203, u204, u205, u206, u207, u208, u209, u210, u211, u212, u213, u214, u215, u216, u217, u218, u219, u220, u221, u222, u223, u224, u225, u226, u227, u228, u229, u230, u231, u232, u233, u234, u235, u236, u237, u238, u239, u240, u241, u242, u243, u244, u245, u246, u247, u248, u249, u250, u251, u252, u253, u254, u255, u256, u257, u258, u259, u260, u261, u262, u263, u264, u265, u266, u267, u268, u269, u270, u271, u272, u273, u274, u275, u276, u277, u278, u279, u280, u281, u282, u283, u284, u285, u286, u287, u288, u289, u290, u291, u292, u293, u294, u295, u296, u297, u298, u299, u300, u301, u302], defers := [] } W := by
  have hun := And.intro HH (And.intro HK (And.intro HOK (And.intro HIX (And.intro HKL (And.intro HV (And.intro HLO (And.intro HLC (And.intro HLL HSZ))))))))
  clear hun
  unfold ApQ
  rw [ap14_15]
  simp only [ap14, ap13, ap12, ap11, ap10, ap9, ap8, ap7, ap6, ap5, ap4, ap3, ap2, ap1, ap0, Tryz.f20, Option.getD_some, sfst_seq, ssnd_seq]
  have HSM : Hid (K.svcs.length ≤ 1048576 ∧ K.cps.length ≤ 1048576 ∧ K.bts.length ≤ 1048576) := by
    have q := HK.out
    simp only [sbOk, Bool.and_eq_true, decide_eq_true_eq] at q
    exact ⟨by omega, by omega, by omega⟩
  have HSN := hid (sane_ok HK.out)
  have HAO2 := hid (ac_bounds HOK.out)
  have hsk : K.svcs.getD k Sv.none = s := by rw [← HS.out]; unfold acS svGet; rw [HIX.out, Int.toNat_natCast]
  have HNX := hid (next_of_ok HK.out k HKL.out)
  rw [hsk] at HNX
  have HNUM := hid (HSN.out.num k HKL.out)
  rw [hsk] at HNUM
  have HBW : Hid (0 ≤ tw ∧ tw ≤ 10) := by
    show _ ∧ _
    rw [HTW.out]
    unfold acS2
    split
    · rename_i e; exact HAO2.out.2.2 e
    · rw [HS.out]; exact ⟨HNUM.out.1, HNUM.out.2.1⟩
  clear hsk
  obtain ⟨n2, hn2⟩ : ∃ n2, n2 = countOf (withC K le) X.svc := ⟨_, rfl⟩
  have HN2 := hid hn2
  have hcl3 := count_le (withC K le) X.svc
  rw [← hn2] at hcl3
  obtain ⟨⟨m0, m1⟩, _⟩ := hcl3
  have m2 : n2.live ≤ 1048576 := by
    have h1 : (withC K le).cps.length = K.cps.length := HLL.out
    have h2 := HSM.out.2.1
    omega
  clear m1
  have HCx : Hid (∀ W0, XI lo px W0 K.now K.svcs le K.bts p0 p1 p2 K.svcs.length K.cps.length K.bts.length q0 q1 q2 → Calls Tryz.prog 53 #[.agg #[.int .i64 K.now, .slice p0 K.svcs.length q0, .slice p1 K.cps.length q1, .slice p2 K.bts.length q2], .string X.svc] W0 fun e w' => e = .returned (.agg #[.int .i64 n2.live, .int .i64 n2.ready, .int .i64 n2.old, .int .i64 n2.failed, .int .i64 n2.ending]) ∧ Below W0.heap.size W0 w') := fun W0 hW => by
    have t := l13CountS (withC K le) p0 p1 p2 q0 q1 q2 X.svc W0 hW.v (by show le.length ≤ _; rw [HLL.out]; exact HSM.out.2.1)
    rw [show (withC K le).cps.length = K.cps.length from HLL.out] at t
    rw [hn2]
    exact t
  clear hn2
  have hfl : ∀ W0, (Instr.field 99 (.agg #[.int .i64 n2.live, .int .i64 n2.ready, .int .i64 n2.old, .int .i64 n2.failed, .int .i64 n2.ending]) 0).run Tryz.prog W0 = .ok (.int .i64 n2.live) W0 := fun W0 => by kernel_rfl
  have HMB : Hid (makeBad K X = (decide (0 < X.create) && (s.gone || decide (tw + s.over < n2.live + X.create)))) := by
    show _ = _
    have e : (acS2 K X).over = s.over := by unfold acS2; rw [HS.out]; split <;> rfl
    rw [makeBad, HS.out, HLC.out, ← HN2.out, e, ← HTW.out]
  have hNE := pst_some W
  obtain ⟨az, b0, b1, b2, b3, b4, b5, b6, b7⟩ := HA.out.ax
  obtain ⟨xz, x0, x1, x2, x3⟩ := HX.out.at_
  have AZ : ∀ px : Pst W, w.heap.size + 1 < px.W.heap.size := fun px => px.size az
  have A0 : ∀ px : Pst W, px.W.cell? ⟨w.heap.size + 1, 0, none⟩ = some (.string X.svc) := fun px => px.cell b0 az
  have A2 : ∀ px : Pst W, px.W.cell? ⟨w.heap.size + 1, 2, none⟩ = some (.int .i64 X.create) := fun px => px.cell b2 az
  have PZ : ∀ py : Pst W, px < py.W.heap.size := fun py => py.size xz
  have P0 : ∀ py : Pst W, py.W.cell? ⟨px, 0, none⟩ = some (.int .i64 K.now) := fun py => py.cell x0 xz
  have P1 : ∀ py : Pst W, py.W.cell? ⟨px, 1, none⟩ = some (.slice p0 K.svcs.length q0) := fun py => py.cell x1 xz
  have P2 : ∀ py : Pst W, py.W.cell? ⟨px, 2, none⟩ = some (.slice p1 K.cps.length q1) := fun py => py.cell x2 xz
  have P3 : ∀ py : Pst W, py.W.cell? ⟨px, 3, none⟩ = some (.slice p2 K.bts.length q2) := fun py => py.cell x3 xz
  have psz : ps < W.heap.size := lt_heap HB.out
  obtain ⟨gn, hgn⟩ : ∃ gn, gn = s.gone := ⟨_, rfl⟩
  have s2 : W.cell? ⟨ps, 2, none⟩ = some (.bool gn) := by rw [hgn]; simp [World.cell?, HB.out]
  have s4 : W.cell? ⟨ps, 4, none⟩ = some (.int .i64 tw) := by simp [World.cell?, HB.out]
  have s6 : W.cell? ⟨ps, 6, none⟩ = some (.int .i64 s.over) := by simp [World.cell?, HB.out]
  rw [← hgn] at HMB
  clear hgn
  have SZ : ∀ px : Pst W, ps < px.W.heap.size := fun px => px.size psz
  have S2 : ∀ px : Pst W, px.W.cell? ⟨ps, 2, none⟩ = some (.bool gn) := fun px => px.cell s2 psz
  have S4 : ∀ px : Pst W, px.W.cell? ⟨ps, 4, none⟩ = some (.int .i64 tw) := fun px => px.cell s4 psz
  have S6 : ∀ px : Pst W, px.W.cell? ⟨ps, 6, none⟩ = some (.int .i64 s.over) := fun px => px.cell s6 psz
  have HSB : Hid (∀ py : Pst W, XI lo px py.W K.now K.svcs le K.bts p0 p1 p2 K.svcs.length K.cps.length K.bts.length q0 q1 q2) := fun py => HX.out.later py.ok
  obtain ⟨v1, v2⟩ := HBW.out
  obtain ⟨_, _, v3, v4⟩ := HNX.out
  have v5 := HAO2.out.1
  have v6 := HAO2.out.2.1
  have HGO : Hid (makeBad K X = false → ∀ W1, Below W.heap.size W W1 → ∀ (u0 u1 u5 u7 u8 u11 u12 u14 u15 u16 u17 u18 u19 u20 u21 u22 u23 u24 u25 u26 u27 u28 u29 u30 u31 u32 u33 u34 u35 u36 u37 u38 u39 u40 u41 u42 u43 u44 u45 u46 u47 u48 u49 u50 u51 u52 u53 u54 u55 u56 u57 u58 u59 u60 u61 u62 u63 u64 u65 u66 u67 u68 u69 u70 u71 u72 u73 u74 u75 u76 u77 u78 u79 u80 u81 u82 u83 u84 u85 u86 u87 u88 u89 u90 u91 u92 u93 u94 u95 u96 u97 u98 u99 u100 u101 u102 u103 u104 u105 u106 u107 u108 u109 u110 u111 u112 u113 u114 u115 u116 u117 u118 u119 u120 u121 u122 u123 u124 u125 u126 u127 u128 u129 u130 u131 u132 u133 u134 u135 u136 u137 u138 u139 u140 u141 u142 u143 u144 u145 u146 u147 u148 u149 u150 u151 u152 u153 u154 u155 u156 u157 u158 u159 u160 u161 u162 u163 u164 u165 u166 u167 u168 u169 u170 u171 u172 u173 u174 u175 u176 u177 u178 u179 u180 u181 u182 u183 u184 u185 u186 u187 u188 u189 u190 u191 u192 u193 u194 u195 u196 u197 u198 u199 u200 u201 u202 u203 u204 u205 u206 u207 u208 u209 u210 u211 u212 u213 u214 u215 u216 u217 u218 u219 u220 u221 u222 u223 u224 u225 u226 u227 u228 u229 u230 u231 u232 u233 u234 u235 u236 u237 u238 u239 u240 u241 u242 u243 u244 u245 u246 u247 u248 u249 u250 u251 u252 u253 u254 u255 u256 u257 u258 u259 u260 u261 u262 u263 u264 u265 u266 u267 u268 u269 u270 u271 u272 u273 u274 u275 u276 u277 u278 u279 u280 u281 u282 u283 u284 u285 u286 u287 u288 u289 u290 u291 u292 u293 u294 u295 u296 u297 u298 u299 u300 u301 u302 : Value), Code.wp Tryz.prog ap15 (ApQ K X w) { tmps := #[u0, u1, .pointer (some ⟨w.heap.size, 0, none⟩), .pointer (some ⟨w.heap.size + 1, 0, none⟩), .pointer (some ⟨w.heap.size + 1 + 1, 0, none⟩), u5, .int .i64 (k : Nat), u7, u8, .pointer (some ⟨px, 0, none⟩), .int .i64 v, u11, u12, .pointer (some ⟨ps, 0, none⟩), u14, u15, u16, u17, u18, u19, u20, u21, u22, u23, u24, u25, u26, u27, u28, u29, u30, u31, u32, u33, u34, u35, u36, u37, u38, u39, u40, u41, u42, u43, u44, u45, u46, u47, u48, u49, u50, u51, u52, u53, u54, u55, u56, u57, u58, u59, u60, u61, u62, u63, u64, u65, u66, u67, u68, u69, u70, u71, u72, u73, u74, u75, u76, u77, u78, u79, u80, u81, u82, u83, u84, u85, u86, u87, u88, u89, u90, u91, u92, u93, u94, u95, u96, u97, u98, u99, u100, u101, u102, u103, u104, u105, u106, u107, u108, u109, u110, u111, u112, u113, u114, u115, u116, u117, u118, u119, u120, u121, u122, u123, u124, u125, u126, u127, u128, u129, u130, u131, u132, u133, u134, u135, u136, u137, u138, u139, u140, u141, u142, u143, u144, u145, u146, u147, u148, u149, u150, u151, u152, u153, u154, u155, u156, u157, u158, u159, u160, u161, u162, u163, u164, u165, u166, u167, u168, u169, u170, u171, u172, u173, u174, u175, u176, u177, u178, u179, u180, u181, u182, u183, u184, u185, u186, u187, u188, u189, u190, u191, u192, u193, u194, u195, u196, u197, u198, u199, u200, u201, u202, u203, u204, u205, u206, u207, u208, u209, u210, u211, u212, u213, u214, u215, u216, u217, u218, u219, u220, u221, u222, u223, u224, u225, u226, u227, u228, u229, u230, u231, u232, u233, u234, u235, u236, u237, u238, u239, u240, u241, u242, u243, u244, u245, u246, u247, u248, u249, u250, u251, u252, u253, u254, u255, u256, u257, u258, u259, u260, u261, u262, u263, u264, u265, u266, u267, u268, u269, u270, u271, u272, u273, u274, u275, u276, u277, u278, u279, u280, u281, u282, u283, u284, u285, u286, u287, u288, u289, u290, u291, u292, u293, u294, u295, u296, u297, u298, u299, u300, u301, u302], defers := [] } W1) := fun hm W1 hb => seg15 K X a0 a1 a2 ae c0 c1 c2 ce w HH HK HOK k HIX HKL v HV lo px HLO le HLC HLL HSZ p0 p1 p2 q0 q1 q2 ps s HS tw tc HTW HTC W1 (hid (HA.out.later hb)) (hid (HX.out.later hb)) HPS (hid ((hb.block ps (lt_heap HB.out)).trans HB.out)) (hid (by rw [HC.out, hm]; rfl))
  clear az b0 b1 b2 b3 b4 b5 b6 b7 xz x0 x1 x2 x3 s2 s4 s6 psz
  go_upto_region 35 with fail
  by_cases hcr : 0 < X.create
  · have hcd : decide (0 < X.create) = true := decide_eq_true hcr
    cases gn
    · by_cases hz : tw + s.over < n2.live + X.create
      · have HR := hid (ret_of 6 (by rw [HC.out, HMB.out, hcd, decide_eq_true hz]; rfl) (by omega))
        refine region_class W (Below.refl _ _) (by kernel_rfl) (by kernel_rfl) ?_
        repeat (first
          | go_big_quiet_skip
          | (go_big_quiet_want; go_big_quiet_op; first | go_big_quiet_on | (apply Exists.intro; refine ⟨fun px => ?_, ?_⟩; (focus (go_at_call 53; refine (HCx.out _ (HSB.out px)).mono ?_; rintro e w' ⟨he, hb⟩; exact ⟨he, ⟨w', blw_trans px.ok hb⟩, rfl⟩)); go_big_quiet_on)))
        refine wpQuiet_nil ?_
        intro _ hw'
        obtain ⟨x6, hw''⟩ := hw'
        subst hw''
        obtain ⟨w3, hw3⟩ : ∃ w3, w3 = x6.W := ⟨_, rfl⟩
        have hok6 := x6.ok
        rw [← hw3] at hok6 ⊢
        clear hw3
        have HA2 := hid (HA.out.later hok6)
        clear hok6 AZ A0 A2 PZ P0 P1 P2 P3 SZ S2 S4 S6 HSB HCx hNE hfl
        go_upto_region 36 with fail
        obtain ⟨yz, y0, y1, y2, y3⟩ := HA2.out.bx
        have hfz := HA2.out.own.frozen
        have hz := HA2.out.own.lt
        obtain ⟨u0, k0⟩ := HA2.out.own.cell 0 (by omega)
        obtain ⟨u1, k1⟩ := HA2.out.own.cell 1 (by omega)
        obtain ⟨u2, k2⟩ := HA2.out.own.cell 2 (by omega)
        obtain ⟨u3, k3⟩ := HA2.out.own.cell 3 (by omega)
        go_wp2
        have p := fun i hi => puts_at 0 [.int .i64 K.now, .slice a0 K.svcs.length c0, .slice a1 K.cps.length c1, .slice a2 K.bts.length c2] w3 0 HA2.out.own (by simp) i hi
        have t0 := p 0 (by simp)
        have t1 := p 1 (by simp)
        have t2 := p 2 (by simp)
        have t3 := p 3 (by simp)
        simp only [puts, Nat.add_zero, Nat.zero_add, Nat.reduceAdd, List.getElem?_cons_zero, List.getElem?_cons_succ] at t0 t1 t2 t3
        have hbl := puts_below (a := w) 0 (B := w.heap.size + 2) (by omega) [.int .i64 K.now, .slice a0 K.svcs.length c0, .slice a1 K.cps.length c1, .slice a2 K.bts.length c2] w3 0 HA2.out.below
        refine bodyPost_ret (v := .tuple #[.agg #[.int .i64 K.now, .slice a0 K.svcs.length c0, .slice a1 K.cps.length c1, .slice a2 K.bts.length c2], .int .i64 6]) (by simp [results, go_sem, t0, t1, t2, t3]) rfl ⟨?_, hbl⟩
        rw [HR.out.1, HR.out.2]
        refine ⟨a0, a1, a2, ?_⟩
        first | exact ⟨c0, c1, c2, rfl, HH.out.later hbl⟩ | exact ⟨⟨c0, c1, c2, rfl⟩, HH.out.later hbl⟩

      · have HD := hid (show makeBad K X = false by rw [HMB.out, hcd, decide_eq_false hz]; rfl)
        refine region_class W (Below.refl _ _) (by kernel_rfl) (by kernel_rfl) ?_
        repeat (first
          | go_big_quiet_skip
          | (go_big_quiet_want; go_big_quiet_op; first | go_big_quiet_on | (apply Exists.intro; refine ⟨fun px => ?_, ?_⟩; (focus (go_at_call 53; refine (HCx.out _ (HSB.out px)).mono ?_; rintro e w' ⟨he, hb⟩; exact ⟨he, ⟨w', blw_trans px.ok hb⟩, rfl⟩)); go_big_quiet_on)))
        refine wpQuiet_nil ?_
        intro _ hw'
        obtain ⟨x6, hw''⟩ := hw'
        subst hw''
        obtain ⟨w3, hw3⟩ : ∃ w3, w3 = x6.W := ⟨_, rfl⟩
        have hok6 := x6.ok
        rw [← hw3] at hok6 ⊢
        clear hw3
        have HO6 := hid hok6
        clear hok6 AZ A0 A2 PZ P0 P1 P2 P3 SZ S2 S4 S6 HSB HCx hNE hfl
        go_wp2
        exact HGO.out HD.out _ HO6.out _ _ _ _ _ _ _ _ _ _ _ _ _ _ _ _ _ _ _ _ _ _ _ _ _ _ _ _ _ _ _ _ _ _ _ _ _ _ _ _ _ _ _ _ _ _ _ _ _ _ _ _ _ _ _ _ _ _ _ _ _ _ _ _ _ _ _ _ _ _ _ _ _ _ _ _ _ _ _ _ _ _ _ _ _ _ _ _ _ _ _ _ _ _ _ _ _ _ _ _ _ _ _ _ _ _ _ _ _ _ _ _ _ _ _ _ _ _ _ _ _ _ _ _ _ _ _ _ _ _ _ _ _ _ _ _ _ _ _ _ _ _ _ _ _ _ _ _ _ _ _ _ _ _ _ _ _ _ _ _ _ _ _ _ _ _ _ _ _ _ _ _ _ _ _ _ _ _ _ _ _ _ _ _ _ _ _ _ _ _ _ _ _ _ _ _ _ _ _ _ _ _ _ _ _ _ _ _ _ _ _ _ _ _ _ _ _ _ _ _ _ _ _ _ _ _ _ _ _ _ _ _ _ _ _ _ _ _ _ _ _ _ _ _ _ _ _ _ _ _ _ _ _ _ _ _ _ _ _ _ _ _ _ _ _ _ _ _ _ _ _ _ _ _ _ _ _ _ _ _ _ _ _ _ _ _ _ _ _ _ _ _ _ _ _ _ 
    · have HR := hid (ret_of 6 (by rw [HC.out, HMB.out, hcd]; rfl) (by omega))
      refine region_class W (Below.refl _ _) (by kernel_rfl) (by kernel_rfl) ?_
      repeat (first
        | go_big_quiet_skip
        | (go_big_quiet_want; go_big_quiet_op; go_big_quiet_on))
      refine wpQuiet_nil ?_
      intro _ hw'
      obtain ⟨x6, hw''⟩ := hw'
      subst hw''
      obtain ⟨w3, hw3⟩ : ∃ w3, w3 = x6.W := ⟨_, rfl⟩
      have hok6 := x6.ok
      rw [← hw3] at hok6 ⊢
      clear hw3
      have HA2 := hid (HA.out.later hok6)
      clear hok6 AZ A0 A2 PZ P0 P1 P2 P3 SZ S2 S4 S6 HSB HCx hNE hfl
      go_upto_region 36 with fail
      obtain ⟨yz, y0, y1, y2, y3⟩ := HA2.out.bx
      have hfz := HA2.out.own.frozen
      have hz := HA2.out.own.lt
      obtain ⟨u0, k0⟩ := HA2.out.own.cell 0 (by omega)
      obtain ⟨u1, k1⟩ := HA2.out.own.cell 1 (by omega)
      obtain ⟨u2, k2⟩ := HA2.out.own.cell 2 (by omega)
      obtain ⟨u3, k3⟩ := HA2.out.own.cell 3 (by omega)
      go_wp2
      have p := fun i hi => puts_at 0 [.int .i64 K.now, .slice a0 K.svcs.length c0, .slice a1 K.cps.length c1, .slice a2 K.bts.length c2] w3 0 HA2.out.own (by simp) i hi
      have t0 := p 0 (by simp)
      have t1 := p 1 (by simp)
      have t2 := p 2 (by simp)
      have t3 := p 3 (by simp)
      simp only [puts, Nat.add_zero, Nat.zero_add, Nat.reduceAdd, List.getElem?_cons_zero, List.getElem?_cons_succ] at t0 t1 t2 t3
      have hbl := puts_below (a := w) 0 (B := w.heap.size + 2) (by omega) [.int .i64 K.now, .slice a0 K.svcs.length c0, .slice a1 K.cps.length c1, .slice a2 K.bts.length c2] w3 0 HA2.out.below
      refine bodyPost_ret (v := .tuple #[.agg #[.int .i64 K.now, .slice a0 K.svcs.length c0, .slice a1 K.cps.length c1, .slice a2 K.bts.length c2], .int .i64 6]) (by simp [results, go_sem, t0, t1, t2, t3]) rfl ⟨?_, hbl⟩
      rw [HR.out.1, HR.out.2]
      refine ⟨a0, a1, a2, ?_⟩
      first | exact ⟨c0, c1, c2, rfl, HH.out.later hbl⟩ | exact ⟨⟨c0, c1, c2, rfl⟩, HH.out.later hbl⟩

  · have hcd : decide (0 < X.create) = false := decide_eq_false hcr
    have HD := hid (show makeBad K X = false by rw [HMB.out, hcd]; rfl)
    refine region_class W (Below.refl _ _) (by kernel_rfl) (by kernel_rfl) ?_
    repeat (first
      | go_big_quiet_skip
      | (go_big_quiet_want; go_big_quiet_op; go_big_quiet_on))
    refine wpQuiet_nil ?_
    intro _ hw'
    obtain ⟨x6, hw''⟩ := hw'
    subst hw''
    obtain ⟨w3, hw3⟩ : ∃ w3, w3 = x6.W := ⟨_, rfl⟩
    have hok6 := x6.ok
    rw [← hw3] at hok6 ⊢
    clear hw3
    have HO6 := hid hok6
    clear hok6 AZ A0 A2 PZ P0 P1 P2 P3 SZ S2 S4 S6 HSB HCx hNE hfl
    go_wp2
    exact HGO.out HD.out _ HO6.out _ _ _ _ _ _ _ _ _ _ _ _ _ _ _ _ _ _ _ _ _ _ _ _ _ _ _ _ _ _ _ _ _ _ _ _ _ _ _ _ _ _ _ _ _ _ _ _ _ _ _ _ _ _ _ _ _ _ _ _ _ _ _ _ _ _ _ _ _ _ _ _ _ _ _ _ _ _ _ _ _ _ _ _ _ _ _ _ _ _ _ _ _ _ _ _ _ _ _ _ _ _ _ _ _ _ _ _ _ _ _ _ _ _ _ _ _ _ _ _ _ _ _ _ _ _ _ _ _ _ _ _ _ _ _ _ _ _ _ _ _ _ _ _ _ _ _ _ _ _ _ _ _ _ _ _ _ _ _ _ _ _ _ _ _ _ _ _ _ _ _ _ _ _ _ _ _ _ _ _ _ _ _ _ _ _ _ _ _ _ _ _ _ _ _ _ _ _ _ _ _ _ _ _ _ _ _ _ _ _ _ _ _ _ _ _ _ _ _ _ _ _ _ _ _ _ _ _ _ _ _ _ _ _ _ _ _ _ _ _ _ _ _ _ _ _ _ _ _ _ _ _ _ _ _ _ _ _ _ _ _ _ _ _ _ _ _ _ _ _ _ _ _ _ _ _ _ _ _ _ _ _ _ _ _ _ _ _ _ _ _ _ _ _ _ _ 

set_option maxRecDepth 8000 in
set_option maxHeartbeats 40000000 in
theorem seg13 (K : SBk) (X : Ac) (a0 a1 a2 ae : Option Addr) (c0 c1 c2 ce : Nat) (w : World) (HH : Hid (SBkV w a0 a1 a2 K)) (HK : Hid (sbOk K = true)) (HOK : Hid (acOk X = true)) (k : Nat) (HIX : Hid (svIx K.svcs X.svc = k)) (HKL : Hid (k < K.svcs.length)) (v : Int) (HV : Hid (v = K.now + 1)) (lo px : Nat) (HLO : Hid (w.heap.size + 3 ≤ lo ∧ w.heap.size + 3 ≤ px)) (le : List Cp) (HLC : Hid (endCps K X = le)) (HLL : Hid (le.length = K.cps.length)) (HSZ : Hid (X.svc.size ≤ maxLen)) (p0 p1 p2 : Option Addr) (q0 q1 q2 : Nat) (ps : Nat) (s : Sv) (HS : Hid (acS K X = s)) (W : World) (HA : Hid (AI0 w W (.int .i64 K.now) (.slice a0 K.svcs.length c0) (.slice a1 K.cps.length c1) (.slice a2 K.bts.length c2) (.string X.svc) (.int .i64 X.seen) (.int .i64 X.create) (.int .i64 X.want) (.int .i64 X.cool) (.bool X.scale) (.slice ae X.ends.length ce) (.bool X.drop))) (HX : Hid (XI lo px W K.now K.svcs le K.bts p0 p1 p2 K.svcs.length K.cps.length K.bts.length q0 q1 q2)) (HPS : Hid (ps ≠ px ∧ w.heap.size + 3 ≤ ps ∧ (∀ g, p0 = some ⟨g, 0, none⟩ → g ≠ ps) ∧ (∀ g, p1 = some ⟨g, 0, none⟩ → g ≠ ps) ∧ (∀ g, p2 = some ⟨g, 0, none⟩ → g ≠ ps))) (HB : Hid (W.heap[ps]? = some (.cells #[.string s.nm, .int .i64 s.ver, .bool s.gone, .int .i64 s.image, .int .i64 s.want, .int .i64 s.down, .int .i64 s.over, .int .i64 s.next, .int .i64 s.per, .int .i64 s.least, .int .i64 s.most, .int .i64 s.load, .int .i64 s.cool] 86 (0, 0)))) (HC : Hid (acCode K X = if makeBad K X then 6 else if scaleBad K X then 6 else if roomBad K X then 7 else 0)) (u0 u1 u5 u7 u8 u11 u12 u14 u15 u16 u17 u18 u19 u20 u21 u22 u23 u24 u25 u26 u27 u28 u29 u30 u31 u32 u33 u34 u35 u36 u37 u38 u39 u40 u41 u42 u43 u44 u45 u46 u47 u48 u49 u50 u51 u52 u53 u54 u55 u56 u57 u58 u59 u60 u61 u62 u63 u64 u65 u66 u67 u68 u69 u70 u71 u72 u73 u74 u75 u76 u77 u78 u79 u80 u81 u82 u83 u84 u85 u86 u87 u88 u89 u90 u91 u92 u93 u94 u95 u96 u97 u98 u99 u100 u101 u102 u103 u104 u105 u106 u107 u108 u109 u110 u111 u112 u113 u114 u115 u116 u117 u118 u119 u120 u121 u122 u123 u124 u125 u126 u127 u128 u129 u130 u131 u132 u133 u134 u135 u136 u137 u138 u139 u140 u141 u142 u143 u144 u145 u146 u147 u148 u149 u150 u151 u152 u153 u154 u155 u156 u157 u158 u159 u160 u161 u162 u163 u164 u165 u166 u167 u168 u169 u170 u171 u172 u173 u174 u175 u176 u177 u178 u179 u180 u181 u182 u183 u184 u185 u186 u187 u188 u189 u190 u191 u192 u193 u194 u195 u196 u197 u198 u199 u200 u201 u202 u203 u204 u205 u206 u207 u208 u209 u210 u211 u212 u213 u214 u215 u216 u217 u218 u219 u220 u221 u222 u223 u224 u225 u226 u227 u228 u229 u230 u231 u232 u233 u234 u235 u236 u237 u238 u239 u240 u241 u242 u243 u244 u245 u246 u247 u248 u249 u250 u251 u252 u253 u254 u255 u256 u257 u258 u259 u260 u261 u262 u263 u264 u265 u266 u267 u268 u269 u270 u271 u272 u273 u274 u275 u276 u277 u278 u279 u280 u281 u282 u283 u284 u285 u286 u287 u288 u289 u290 u291 u292 u293 u294 u295 u296 u297 u298 u299 u300 u301 u302 : Value) : Code.wp Tryz.prog ap13 (ApQ K X w) { tmps := #[u0, u1, .pointer (some ⟨w.heap.size, 0, none⟩), .pointer (some ⟨w.heap.size + 1, 0, none⟩), .pointer (some ⟨w.heap.size + 1 + 1, 0, none⟩), u5, .int .i64 (k : Nat), u7, u8, .pointer (some ⟨px, 0, none⟩), .int .i64 v, u11, u12, .pointer (some ⟨ps, 0, none⟩), u14, u15, u16, u17, u18, u19, u20, u21, u22, u23, u24, u25, u26, u27, u28, u29, u30, u31, u32, u33, u34, u35, u36, u37, u38, u39, u40, u41, u42, u43, u44, u45, u46, u47, u48, u49, u50, u51, u52, u53, u54, u55, u56, u57, u58, u59, u60, u61, u62, u63, u64, u65, u66, u67, u68, u69, u70, u71, u72, u73, u74, u75, u76, u77, u78, u79, u80, u81, u82, u83, u84, u85, u86, u87, u88, u89, u90, u91, u92, u93, u94, u95, u96, u97, u98, u99, u100, u101, u102, u103, u104, u105, u106, u107, u108, u109, u110, u111, u112, u113, u114, u115, u116, u117, u118, u119, u120, u121, u122, u123, u124, u125, u126, u127, u128, u129, u130, u131, u132, u133, u134, u135, u136, u137, u138, u139, u140, u141, u142, u143, u144, u145, u146, u147, u148, u149, u150, u151, u152, u153, u154, u155, u156, u157, u158, u159, u160, u161, u162, u163, u164, u165, u166, u167, u168, u169, u170, u171, u172, u173, u174, u175, u176, u177, u178, u179, u180, u181, u182, u183, u184, u185, u186, u187, u188, u189, u190, u191, u192, u193, u194, u195, u196, u197, u198, u199, u200, u201, u202, u203, u204, u205, u206, u207, u208, u209, u210, u211, u212, u213, u214, u215, u216, u217, u218, u219, u220, u221, u222, u223, u224, u225, u226, u227, u228, u229, u230, u231, u232, u233, u234, u235, u236, u237, u238, u239, u240, u241, u242, u243, u244, u245, u246, u247, u248, u249, u250, u251, u252, u253, u254, u255, u256, u257, u258, u259, u260, u261, u262, u263, u264, u265, u266, u267, u268, u269, u270, u271, u272, u273, u274, u275, u276, u277, u278, u279, u280, u281, u282, u283, u284, u285, u286, u287, u288, u289, u290, u291, u292, u293, u294, u295, u296, u297, u298, u299, u300, u301, u302], defers := [] } W := by
  have hun := And.intro HH (And.intro HK (And.intro HOK (And.intro HIX (And.intro HKL (And.intro HV (And.intro HLO (And.intro HLC (And.intro HLL HSZ))))))))
  clear hun
  unfold ApQ
  rw [ap13_14]
  simp only [ap13, ap12, ap11, ap10, ap9, ap8, ap7, ap6, ap5, ap4, ap3, ap2, ap1, ap0, Tryz.f20, Option.getD_some, sfst_seq, ssnd_seq]
  obtain ⟨tw, htw⟩ : ∃ tw, tw = (acS2 K X).want := ⟨_, rfl⟩
  obtain ⟨tc, htc⟩ : ∃ tc, tc = (acS2 K X).cool := ⟨_, rfl⟩
  have HTW := hid htw
  have HTC := hid htc
  have HTS : Hid ((X.scale = true → tw = X.want ∧ tc = X.cool) ∧ (X.scale = false → tw = s.want ∧ tc = s.cool)) := by
    refine ⟨fun e => ?_, fun e => ?_⟩
    · rw [htw, htc]; unfold acS2; rw [e, if_pos rfl]; exact ⟨rfl, rfl⟩
    · rw [htw, htc]; unfold acS2; rw [e, HS.out]; exact ⟨rfl, rfl⟩
  clear htw htc
  obtain ⟨az, b0, b1, b2, b3, b4, b5, b6, b7⟩ := HA.out.ax
  have psz : ps < W.heap.size := lt_heap HB.out
  have psf : ∀ j, W.frozen? ⟨ps, j, none⟩ = false := fun j => by simp [World.frozen?, HB.out]
  have s4 : W.cell? ⟨ps, 4, none⟩ = some (.int .i64 s.want) := by simp [World.cell?, HB.out]
  have h15 := heap_setCell_same W ps 4 _ _ (.int .i64 X.want) HB.out
  have psz' : ps < (W.setCell ⟨ps, 4, none⟩ (.int .i64 X.want)).heap.size := lt_heap h15
  have psf' : ∀ j, (W.setCell ⟨ps, 4, none⟩ (.int .i64 X.want)).frozen? ⟨ps, j, none⟩ = false := fun j => by simp [World.frozen?, h15]
  have s12 : (W.setCell ⟨ps, 4, none⟩ (.int .i64 X.want)).cell? ⟨ps, 12, none⟩ = some (.int .i64 s.cool) := by simp [World.cell?, h15]
  have b4' : (W.setCell ⟨ps, 4, none⟩ (.int .i64 X.want)).cell? ⟨w.heap.size + 1, 4, none⟩ = some (.int .i64 X.cool) := (sc_ne W ps 4 (.int .i64 X.want) (w.heap.size + 1) 4 (Or.inl (by have := HPS.out.2.1; omega))).trans b4
  have az' : w.heap.size + 1 < (W.setCell ⟨ps, 4, none⟩ (.int .i64 X.want)).heap.size := by rw [sc_size]; exact az
  have h16 := heap_setCell_same _ ps 12 _ _ (.int .i64 X.cool) h15
  have H16 := hid h16
  clear h15 h16
  rcases Bool.eq_false_or_eq_true X.scale with hsc | hsc
  · have HT := hid (HTS.out.1 hsc)
    rw [hsc] at b5
    clear hsc
    go_wp2
    refine seg14 K X a0 a1 a2 ae c0 c1 c2 ce w HH HK HOK k HIX HKL v HV lo px HLO le HLC HLL HSZ p0 p1 p2 q0 q1 q2 ps s HS tw tc HTW HTC _ (hid ((HA.out.sc HPS.out.2.1 _ _).sc HPS.out.2.1 _ _)) (hid ((HX.out.scA HPS.out.1 HPS.out.2.2.1 HPS.out.2.2.2.1 HPS.out.2.2.2.2 _ _).scA HPS.out.1 HPS.out.2.2.1 HPS.out.2.2.2.1 HPS.out.2.2.2.2 _ _)) HPS (hid ?_) HC _ _ _ _ _ _ _ _ _ _ _ _ _ _ _ _ _ _ _ _ _ _ _ _ _ _ _ _ _ _ _ _ _ _ _ _ _ _ _ _ _ _ _ _ _ _ _ _ _ _ _ _ _ _ _ _ _ _ _ _ _ _ _ _ _ _ _ _ _ _ _ _ _ _ _ _ _ _ _ _ _ _ _ _ _ _ _ _ _ _ _ _ _ _ _ _ _ _ _ _ _ _ _ _ _ _ _ _ _ _ _ _ _ _ _ _ _ _ _ _ _ _ _ _ _ _ _ _ _ _ _ _ _ _ _ _ _ _ _ _ _ _ _ _ _ _ _ _ _ _ _ _ _ _ _ _ _ _ _ _ _ _ _ _ _ _ _ _ _ _ _ _ _ _ _ _ _ _ _ _ _ _ _ _ _ _ _ _ _ _ _ _ _ _ _ _ _ _ _ _ _ _ _ _ _ _ _ _ _ _ _ _ _ _ _ _ _ _ _ _ _ _ _ _ _ _ _ _ _ _ _ _ _ _ _ _ _ _ _ _ _ _ _ _ _ _ _ _ _ _ _ _ _ _ _ _ _ _ _ _ _ _ _ _ _ _ _ _ _ _ _ _ _ _ _ _ _ _ _ _ _ _ _ _ _ _ _ _ _ _ _ _ _ _ _ _ 
    rw [H16.out, HT.out.1, HT.out.2]; rfl
  · have HT := hid (HTS.out.2 hsc)
    rw [hsc] at b5
    clear hsc
    go_wp2
    exact seg14 K X a0 a1 a2 ae c0 c1 c2 ce w HH HK HOK k HIX HKL v HV lo px HLO le HLC HLL HSZ p0 p1 p2 q0 q1 q2 ps s HS tw tc HTW HTC _ HA HX HPS (hid (by rw [HB.out, HT.out.1, HT.out.2])) HC _ _ _ _ _ _ _ _ _ _ _ _ _ _ _ _ _ _ _ _ _ _ _ _ _ _ _ _ _ _ _ _ _ _ _ _ _ _ _ _ _ _ _ _ _ _ _ _ _ _ _ _ _ _ _ _ _ _ _ _ _ _ _ _ _ _ _ _ _ _ _ _ _ _ _ _ _ _ _ _ _ _ _ _ _ _ _ _ _ _ _ _ _ _ _ _ _ _ _ _ _ _ _ _ _ _ _ _ _ _ _ _ _ _ _ _ _ _ _ _ _ _ _ _ _ _ _ _ _ _ _ _ _ _ _ _ _ _ _ _ _ _ _ _ _ _ _ _ _ _ _ _ _ _ _ _ _ _ _ _ _ _ _ _ _ _ _ _ _ _ _ _ _ _ _ _ _ _ _ _ _ _ _ _ _ _ _ _ _ _ _ _ _ _ _ _ _ _ _ _ _ _ _ _ _ _ _ _ _ _ _ _ _ _ _ _ _ _ _ _ _ _ _ _ _ _ _ _ _ _ _ _ _ _ _ _ _ _ _ _ _ _ _ _ _ _ _ _ _ _ _ _ _ _ _ _ _ _ _ _ _ _ _ _ _ _ _ _ _ _ _ _ _ _ _ _ _ _ _ _ _ _ _ _ _ _ _ _ _ _ _ _ _ _ _ _ 

set_option maxRecDepth 8000 in
set_option maxHeartbeats 40000000 in
theorem seg10 (K : SBk) (X : Ac) (a0 a1 a2 ae : Option Addr) (c0 c1 c2 ce : Nat) (w : World) (HH : Hid (SBkV w a0 a1 a2 K)) (HK : Hid (sbOk K = true)) (HOK : Hid (acOk X = true)) (k : Nat) (HIX : Hid (svIx K.svcs X.svc = k)) (HKL : Hid (k < K.svcs.length)) (v : Int) (HV : Hid (v = K.now + 1)) (lo px : Nat) (HLO : Hid (w.heap.size + 3 ≤ lo ∧ w.heap.size + 3 ≤ px)) (le : List Cp) (HLC : Hid (endCps K X = le)) (HLL : Hid (le.length = K.cps.length)) (HSZ : Hid (X.svc.size ≤ maxLen)) (p0 p1 p2 : Option Addr) (q0 q1 q2 : Nat) (W : World) (HA : Hid (AI0 w W (.int .i64 K.now) (.slice a0 K.svcs.length c0) (.slice a1 K.cps.length c1) (.slice a2 K.bts.length c2) (.string X.svc) (.int .i64 X.seen) (.int .i64 X.create) (.int .i64 X.want) (.int .i64 X.cool) (.bool X.scale) (.slice ae X.ends.length ce) (.bool X.drop))) (HX : Hid (XI lo px W K.now K.svcs le K.bts p0 p1 p2 K.svcs.length K.cps.length K.bts.length q0 q1 q2)) (HC : Hid (acCode K X = if dropBad K X then 6 else if makeBad K X then 6 else if scaleBad K X then 6 else if roomBad K X then 7 else 0)) (u0 u1 u5 u7 u8 u11 u12 u13 u14 u15 u16 u17 u18 u19 u20 u21 u22 u23 u24 u25 u26 u27 u28 u29 u30 u31 u32 u33 u34 u35 u36 u37 u38 u39 u40 u41 u42 u43 u44 u45 u46 u47 u48 u49 u50 u51 u52 u53 u54 u55 u56 u57 u58 u59 u60 u61 u62 u63 u64 u65 u66 u67 u68 u69 u70 u71 u72 u73 u74 u75 u76 u77 u78 u79 u80 u81 u82 u83 u84 u85 u86 u87 u88 u89 u90 u91 u92 u93 u94 u95 u96 u97 u98 u99 u100 u101 u102 u103 u104 u105 u106 u107 u108 u109 u110 u111 u112 u113 u114 u115 u116 u117 u118 u119 u120 u121 u122 u123 u124 u125 u126 u127 u128 u129 u130 u131 u132 u133 u134 u135 u136 u137 u138 u139 u140 u141 u142 u143 u144 u145 u146 u147 u148 u149 u150 u151 u152 u153 u154 u155 u156 u157 u158 u159 u160 u161 u162 u163 u164 u165 u166 u167 u168 u169 u170 u171 u172 u173 u174 u175 u176 u177 u178 u179 u180 u181 u182 u183 u184 u185 u186 u187 u188 u189 u190 u191 u192 u193 u194 u195 u196 u197 u198 u199 u200 u201 u202 u203 u204 u205 u206 u207 u208 u209 u210 u211 u212 u213 u214 u215 u216 u217 u218 u219 u220 u221 u222 u223 u224 u225 u226 u227 u228 u229 u230 u231 u232 u233 u234 u235 u236 u237 u238 u239 u240 u241 u242 u243 u244 u245 u246 u247 u248 u249 u250 u251 u252 u253 u254 u255 u256 u257 u258 u259 u260 u261 u262 u263 u264 u265 u266 u267 u268 u269 u270 u271 u272 u273 u274 u275 u276 u277 u278 u279 u280 u281 u282 u283 u284 u285 u286 u287 u288 u289 u290 u291 u292 u293 u294 u295 u296 u297 u298 u299 u300 u301 u302 : Value) : Code.wp Tryz.prog ap10 (ApQ K X w) { tmps := #[u0, u1, .pointer (some ⟨w.heap.size, 0, none⟩), .pointer (some ⟨w.heap.size + 1, 0, none⟩), .pointer (some ⟨w.heap.size + 1 + 1, 0, none⟩), u5, .int .i64 (k : Nat), u7, u8, .pointer (some ⟨px, 0, none⟩), .int .i64 v, u11, u12, u13, u14, u15, u16, u17, u18, u19, u20, u21, u22, u23, u24, u25, u26, u27, u28, u29, u30, u31, u32, u33, u34, u35, u36, u37, u38, u39, u40, u41, u42, u43, u44, u45, u46, u47, u48, u49, u50, u51, u52, u53, u54, u55, u56, u57, u58, u59, u60, u61, u62, u63, u64, u65, u66, u67, u68, u69, u70, u71, u72, u73, u74, u75, u76, u77, u78, u79, u80, u81, u82, u83, u84, u85, u86, u87, u88, u89, u90, u91, u92, u93, u94, u95, u96, u97, u98, u99, u100, u101, u102, u103, u104, u105, u106, u107, u108, u109, u110, u111, u112, u113, u114, u115, u116, u117, u118, u119, u120, u121, u122, u123, u124, u125, u126, u127, u128, u129, u130, u131, u132, u133, u134, u135, u136, u137, u138, u139, u140, u141, u142, u143, u144, u145, u146, u147, u148, u149, u150, u151, u152, u153, u154, u155, u156, u157, u158, u159, u160, u161, u162, u163, u164, u165, u166, u167, u168, u169, u170, u171, u172, u173, u174, u175, u176, u177, u178, u179, u180, u181, u182, u183, u184, u185, u186, u187, u188, u189, u190, u191, u192, u193, u194, u195, u196, u197, u198, u199, u200, u201, u202, u203, u204, u205, u206, u207, u208, u209, u210, u211, u212, u213, u214, u215, u216, u217, u218, u219, u220, u221, u222, u223, u224, u225, u226, u227, u228, u229, u230, u231, u232, u233, u234, u235, u236, u237, u238, u239, u240, u241, u242, u243, u244, u245, u246, u247, u248, u249, u250, u251, u252, u253, u254, u255, u256, u257, u258, u259, u260, u261, u262, u263, u264, u265, u266, u267, u268, u269, u270, u271, u272, u273, u274, u275, u276, u277, u278, u279, u280, u281, u282, u283, u284, u285, u286, u287, u288, u289, u290, u291, u292, u293, u294, u295, u296, u297, u298, u299, u300, u301, u302], defers := [] } W := by
  have hun := And.intro HH (And.intro HK (And.intro HOK (And.intro HIX (And.intro HKL (And.intro HV (And.intro HLO (And.intro HLC (And.intro HLL HSZ))))))))
  clear hun
  unfold ApQ
  rw [ap10_13]
  simp only [ap12, ap11, ap10, ap9, ap8, ap7, ap6, ap5, ap4, ap3, ap2, ap1, ap0, Tryz.f20, Option.getD_some, sfst_seq, ssnd_seq]
  have HSM : Hid (K.svcs.length ≤ 1048576 ∧ K.cps.length ≤ 1048576 ∧ K.bts.length ≤ 1048576) := by
    have q := HK.out
    simp only [sbOk, Bool.and_eq_true, decide_eq_true_eq] at q
    exact ⟨by omega, by omega, by omega⟩
  obtain ⟨s, hs⟩ : ∃ s, s = acS K X := ⟨_, rfl⟩
  have HS := hid hs.symm
  have hsk : K.svcs.getD k Sv.none = s := by rw [hs]; unfold acS svGet; rw [HIX.out, Int.toNat_natCast]
  clear hs
  have hkl := HKL.out
  obtain ⟨g0, cur0, hp0, hg0lo, hg0, _, hcell0⟩ := owns_blk HX.out.o0 (by omega)
  have d0 : W.cell? ⟨g0, k * 13, none⟩ = some (.string s.nm) := hcell0 _ _ (by have t := flat_at Sv.none SvC 13 SvC_len K.svcs k 0 (by omega) (by omega); rw [hsk] at t; exact t)
  have d1 : W.cell? ⟨g0, k * 13 + 1, none⟩ = some (.int .i64 s.ver) := hcell0 _ _ (by have t := flat_at Sv.none SvC 13 SvC_len K.svcs k 1 (by omega) (by omega); rw [hsk] at t; exact t)
  have d2 : W.cell? ⟨g0, k * 13 + 2, none⟩ = some (.bool s.gone) := hcell0 _ _ (by have t := flat_at Sv.none SvC 13 SvC_len K.svcs k 2 (by omega) (by omega); rw [hsk] at t; exact t)
  have d3 : W.cell? ⟨g0, k * 13 + 3, none⟩ = some (.int .i64 s.image) := hcell0 _ _ (by have t := flat_at Sv.none SvC 13 SvC_len K.svcs k 3 (by omega) (by omega); rw [hsk] at t; exact t)
  have d4 : W.cell? ⟨g0, k * 13 + 4, none⟩ = some (.int .i64 s.want) := hcell0 _ _ (by have t := flat_at Sv.none SvC 13 SvC_len K.svcs k 4 (by omega) (by omega); rw [hsk] at t; exact t)
  have d5 : W.cell? ⟨g0, k * 13 + 5, none⟩ = some (.int .i64 s.down) := hcell0 _ _ (by have t := flat_at Sv.none SvC 13 SvC_len K.svcs k 5 (by omega) (by omega); rw [hsk] at t; exact t)
  have d6 : W.cell? ⟨g0, k * 13 + 6, none⟩ = some (.int .i64 s.over) := hcell0 _ _ (by have t := flat_at Sv.none SvC 13 SvC_len K.svcs k 6 (by omega) (by omega); rw [hsk] at t; exact t)
  have d7 : W.cell? ⟨g0, k * 13 + 7, none⟩ = some (.int .i64 s.next) := hcell0 _ _ (by have t := flat_at Sv.none SvC 13 SvC_len K.svcs k 7 (by omega) (by omega); rw [hsk] at t; exact t)
  have d8 : W.cell? ⟨g0, k * 13 + 8, none⟩ = some (.int .i64 s.per) := hcell0 _ _ (by have t := flat_at Sv.none SvC 13 SvC_len K.svcs k 8 (by omega) (by omega); rw [hsk] at t; exact t)
  have d9 : W.cell? ⟨g0, k * 13 + 9, none⟩ = some (.int .i64 s.least) := hcell0 _ _ (by have t := flat_at Sv.none SvC 13 SvC_len K.svcs k 9 (by omega) (by omega); rw [hsk] at t; exact t)
  have d10 : W.cell? ⟨g0, k * 13 + 10, none⟩ = some (.int .i64 s.most) := hcell0 _ _ (by have t := flat_at Sv.none SvC 13 SvC_len K.svcs k 10 (by omega) (by omega); rw [hsk] at t; exact t)
  have d11 : W.cell? ⟨g0, k * 13 + 11, none⟩ = some (.int .i64 s.load) := hcell0 _ _ (by have t := flat_at Sv.none SvC 13 SvC_len K.svcs k 11 (by omega) (by omega); rw [hsk] at t; exact t)
  have d12 : W.cell? ⟨g0, k * 13 + 12, none⟩ = some (.int .i64 s.cool) := hcell0 _ _ (by have t := flat_at Sv.none SvC 13 SvC_len K.svcs k 12 (by omega) (by omega); rw [hsk] at t; exact t)
  have hk0 : (0 : Int) ≤ (k : Int) := by omega
  have hk3 : (k : Int) < (K.svcs.length : Int) := by omega
  have hg0z : g0 < W.heap.size := lt_heap hg0
  obtain ⟨ps, hps⟩ : ∃ ps, ps = W.heap.size := ⟨_, rfl⟩
  obtain ⟨w12, hw12⟩ : ∃ w12, w12 = W.alloc (.cells #[.string s.nm, .int .i64 s.ver, .bool s.gone, .int .i64 s.image, .int .i64 s.want, .int .i64 s.down, .int .i64 s.over, .int .i64 s.next, .int .i64 s.per, .int .i64 s.least, .int .i64 s.most, .int .i64 s.load, .int .i64 s.cool] 86) := ⟨_, rfl⟩
  have hb12 : Below W.heap.size W w12 := by rw [hw12]; exact blw_alloc (Below.refl _ _) _
  have HA12 := hid (HA.out.later hb12)
  have HX12 := hid (HX.out.later hb12)
  have HS12 : Hid (w12.heap[ps]? = some (.cells #[.string s.nm, .int .i64 s.ver, .bool s.gone, .int .i64 s.image, .int .i64 s.want, .int .i64 s.down, .int .i64 s.over, .int .i64 s.next, .int .i64 s.per, .int .i64 s.least, .int .i64 s.most, .int .i64 s.load, .int .i64 s.cool] 86 (0, 0))) := by show _ = _; rw [hw12, hps]; exact heap_alloc_new W _
  have HPS : Hid (ps ≠ px ∧ w.heap.size + 3 ≤ ps ∧ (∀ g, p0 = some ⟨g, 0, none⟩ → g ≠ ps) ∧ (∀ g, p1 = some ⟨g, 0, none⟩ → g ≠ ps) ∧ (∀ g, p2 = some ⟨g, 0, none⟩ → g ≠ ps)) := by
    refine ⟨?_, ?_, fun g hg => ?_, fun g hg => ?_, fun g hg => ?_⟩
    · have := lt_heap HX.out.bx; omega
    · have := HA.out.own.lt; omega
    · have t := HX.out.o0
      rw [hg] at t
      have := owns_lt t
      omega
    · have t := HX.out.o1
      rw [hg] at t
      have := owns_lt t
      omega
    · have t := HX.out.o2
      rw [hg] at t
      have := owns_lt t
      omega
  obtain ⟨xz, x0, x1, x2, x3⟩ := HX.out.at_
  have HP0 := hid hp0
  rw [hp0] at x1
  clear hcell0 hsk hp0
  go_upto_region 29 with fail
  rw [← hw12, ← hps]
  clear hw12 hps hb12 d0 d1 d2 d3 d4 d5 d6 d7 d8 d9 d10 d11 d12 xz x0 x1 x2 x3 hg0 hg0z hg0lo
  obtain ⟨n, hn⟩ : ∃ n, n = countOf K X.svc := ⟨_, rfl⟩
  have HN := hid hn
  have hcl2 := count_le K X.svc
  rw [← hn] at hcl2
  have HCn : Hid (∀ W0, SBkV W0 a0 a1 a2 K → Calls Tryz.prog 53 #[.agg #[.int .i64 K.now, .slice a0 K.svcs.length c0, .slice a1 K.cps.length c1, .slice a2 K.bts.length c2], .string X.svc] W0 fun e w' => e = .returned (.agg #[.int .i64 n.live, .int .i64 n.ready, .int .i64 n.old, .int .i64 n.failed, .int .i64 n.ending]) ∧ Below W0.heap.size W0 w') := fun W0 hW => by rw [hn]; exact l13CountS K a0 a1 a2 c0 c1 c2 X.svc W0 hW HSM.out.2.1
  clear hn
  obtain ⟨yz, y0, y1, y2, y3⟩ := HA12.out.bx
  obtain ⟨az, b0, b1, b2, b3, b4, b5, b6, b7⟩ := HA12.out.ax
  go_wp2_with fail
  refine (HCn.out w12 (HH.out.later HA12.out.below)).mono ?_
  rintro e w13 ⟨rfl, hb13⟩
  obtain ⟨pa, hpa⟩ : ∃ pa, pa = w13.heap.size := ⟨_, rfl⟩
  obtain ⟨w14, hw14⟩ : ∃ w14, w14 = w13.alloc (.cells #[.int .i64 n.live, .int .i64 n.ready, .int .i64 n.old, .int .i64 n.failed, .int .i64 n.ending] 99) := ⟨_, rfl⟩
  have hb14 : Below w12.heap.size w12 w14 := by rw [hw14]; exact blw_alloc hb13 _
  have HA14 := hid (HA12.out.later hb14)
  have HX14 := hid (HX12.out.later hb14)
  have HS14 := hid ((hb14.block ps (lt_heap HS12.out)).trans HS12.out)
  have hN14 : w14.heap[pa]? = some (.cells #[.int .i64 n.live, .int .i64 n.ready, .int .i64 n.old, .int .i64 n.failed, .int .i64 n.ending] 99 (0, 0)) := by rw [hw14, hpa]; exact heap_alloc_new w13 _
  clear yz y0 y1 y2 y3 az b0 b1 b2 b3 b4 b5 b6 b7
  go_upto_region 30 with fail
  rw [← hw14, ← hpa]
  clear hw14 hpa hb13 hb14 HA12 HX12 HS12 HCn
  obtain ⟨⟨m0, m1⟩, _, _, _, ⟨m8, m9⟩⟩ := hcl2
  have hsm2 := HSM.out.2.1
  have paz : pa < w14.heap.size := lt_heap hN14
  have n0 : w14.cell? ⟨pa, 0, none⟩ = some (.int .i64 n.live) := by simp [World.cell?, hN14]
  have n4 : w14.cell? ⟨pa, 4, none⟩ = some (.int .i64 n.ending) := by simp [World.cell?, hN14]
  have psz : ps < w14.heap.size := lt_heap HS14.out
  have s2 : w14.cell? ⟨ps, 2, none⟩ = some (.bool s.gone) := by simp [World.cell?, HS14.out]
  have HDB : Hid (dropBad K X = (X.drop && (!s.gone || decide (0 < n.live + n.ending)))) := by show _ = _; rw [dropBad, HS.out, ← HN.out]
  have HGO : Hid (dropBad K X = false → ∀ (u0 u1 u5 u7 u8 u11 u12 u14 u15 u16 u17 u18 u19 u20 u21 u22 u23 u24 u25 u26 u27 u28 u29 u30 u31 u32 u33 u34 u35 u36 u37 u38 u39 u40 u41 u42 u43 u44 u45 u46 u47 u48 u49 u50 u51 u52 u53 u54 u55 u56 u57 u58 u59 u60 u61 u62 u63 u64 u65 u66 u67 u68 u69 u70 u71 u72 u73 u74 u75 u76 u77 u78 u79 u80 u81 u82 u83 u84 u85 u86 u87 u88 u89 u90 u91 u92 u93 u94 u95 u96 u97 u98 u99 u100 u101 u102 u103 u104 u105 u106 u107 u108 u109 u110 u111 u112 u113 u114 u115 u116 u117 u118 u119 u120 u121 u122 u123 u124 u125 u126 u127 u128 u129 u130 u131 u132 u133 u134 u135 u136 u137 u138 u139 u140 u141 u142 u143 u144 u145 u146 u147 u148 u149 u150 u151 u152 u153 u154 u155 u156 u157 u158 u159 u160 u161 u162 u163 u164 u165 u166 u167 u168 u169 u170 u171 u172 u173 u174 u175 u176 u177 u178 u179 u180 u181 u182 u183 u184 u185 u186 u187 u188 u189 u190 u191 u192 u193 u194 u195 u196 u197 u198 u199 u200 u201 u202 u203 u204 u205 u206 u207 u208 u209 u210 u211 u212 u213 u214 u215 u216 u217 u218 u219 u220 u221 u222 u223 u224 u225 u226 u227 u228 u229 u230 u231 u232 u233 u234 u235 u236 u237 u238 u239 u240 u241 u242 u243 u244 u245 u246 u247 u248 u249 u250 u251 u252 u253 u254 u255 u256 u257 u258 u259 u260 u261 u262 u263 u264 u265 u266 u267 u268 u269 u270 u271 u272 u273 u274 u275 u276 u277 u278 u279 u280 u281 u282 u283 u284 u285 u286 u287 u288 u289 u290 u291 u292 u293 u294 u295 u296 u297 u298 u299 u300 u301 u302 : Value), Code.wp Tryz.prog ap13 (ApQ K X w) { tmps := #[u0, u1, .pointer (some ⟨w.heap.size, 0, none⟩), .pointer (some ⟨w.heap.size + 1, 0, none⟩), .pointer (some ⟨w.heap.size + 1 + 1, 0, none⟩), u5, .int .i64 (k : Nat), u7, u8, .pointer (some ⟨px, 0, none⟩), .int .i64 v, u11, u12, .pointer (some ⟨ps, 0, none⟩), u14, u15, u16, u17, u18, u19, u20, u21, u22, u23, u24, u25, u26, u27, u28, u29, u30, u31, u32, u33, u34, u35, u36, u37, u38, u39, u40, u41, u42, u43, u44, u45, u46, u47, u48, u49, u50, u51, u52, u53, u54, u55, u56, u57, u58, u59, u60, u61, u62, u63, u64, u65, u66, u67, u68, u69, u70, u71, u72, u73, u74, u75, u76, u77, u78, u79, u80, u81, u82, u83, u84, u85, u86, u87, u88, u89, u90, u91, u92, u93, u94, u95, u96, u97, u98, u99, u100, u101, u102, u103, u104, u105, u106, u107, u108, u109, u110, u111, u112, u113, u114, u115, u116, u117, u118, u119, u120, u121, u122, u123, u124, u125, u126, u127, u128, u129, u130, u131, u132, u133, u134, u135, u136, u137, u138, u139, u140, u141, u142, u143, u144, u145, u146, u147, u148, u149, u150, u151, u152, u153, u154, u155, u156, u157, u158, u159, u160, u161, u162, u163, u164, u165, u166, u167, u168, u169, u170, u171, u172, u173, u174, u175, u176, u177, u178, u179, u180, u181, u182, u183, u184, u185, u186, u187, u188, u189, u190, u191, u192, u193, u194, u195, u196, u197, u198, u199, u200, u201, u202, u203, u204, u205, u206, u207, u208, u209, u210, u211, u212, u213, u214, u215, u216, u217, u218, u219, u220, u221, u222, u223, u224, u225, u226, u227, u228, u229, u230, u231, u232, u233, u234, u235, u236, u237, u238, u239, u240, u241, u242, u243, u244, u245, u246, u247, u248, u249, u250, u251, u252, u253, u254, u255, u256, u257, u258, u259, u260, u261, u262, u263, u264, u265, u266, u267, u268, u269, u270, u271, u272, u273, u274, u275, u276, u277, u278, u279, u280, u281, u282, u283, u284, u285, u286, u287, u288, u289, u290, u291, u292, u293, u294, u295, u296, u297, u298, u299, u300, u301, u302], defers := [] } w14) := fun hm => seg13 K X a0 a1 a2 ae c0 c1 c2 ce w HH HK HOK k HIX HKL v HV lo px HLO le HLC HLL HSZ p0 p1 p2 q0 q1 q2 ps s HS w14 HA14 HX14 HPS HS14 (hid (by rw [HC.out, hm]; rfl))
  clear hN14
  obtain ⟨az, b0, b1, b2, b3, b4, b5, b6, b7⟩ := HA14.out.ax
  rcases Bool.eq_false_or_eq_true X.drop with hd | hd
  · rw [hd] at b7
    rcases Bool.eq_false_or_eq_true s.gone with hgn | hgn
    · rw [hgn] at s2
      by_cases hz : 0 < n.live + n.ending
      · have HR := hid (ret_of 6 (by rw [HC.out, HDB.out, hd, hgn, decide_eq_true hz]; rfl) (by omega))
        clear hd hgn
        go_upto_region 31 with fail
        obtain ⟨yz, y0, y1, y2, y3⟩ := HA14.out.bx
        have hfz := HA14.out.own.frozen
        have hz := HA14.out.own.lt
        obtain ⟨u0, k0⟩ := HA14.out.own.cell 0 (by omega)
        obtain ⟨u1, k1⟩ := HA14.out.own.cell 1 (by omega)
        obtain ⟨u2, k2⟩ := HA14.out.own.cell 2 (by omega)
        obtain ⟨u3, k3⟩ := HA14.out.own.cell 3 (by omega)
        go_wp2
        have p := fun i hi => puts_at 0 [.int .i64 K.now, .slice a0 K.svcs.length c0, .slice a1 K.cps.length c1, .slice a2 K.bts.length c2] w14 0 HA14.out.own (by simp) i hi
        have t0 := p 0 (by simp)
        have t1 := p 1 (by simp)
        have t2 := p 2 (by simp)
        have t3 := p 3 (by simp)
        simp only [puts, Nat.add_zero, Nat.zero_add, Nat.reduceAdd, List.getElem?_cons_zero, List.getElem?_cons_succ] at t0 t1 t2 t3
        have hbl := puts_below (a := w) 0 (B := w.heap.size + 2) (by omega) [.int .i64 K.now, .slice a0 K.svcs.length c0, .slice a1 K.cps.length c1, .slice a2 K.bts.length c2] w14 0 HA14.out.below
        refine bodyPost_ret (v := .tuple #[.agg #[.int .i64 K.now, .slice a0 K.svcs.length c0, .slice a1 K.cps.length c1, .slice a2 K.bts.length c2], .int .i64 6]) (by simp [results, go_sem, t0, t1, t2, t3]) rfl ⟨?_, hbl⟩
        rw [HR.out.1, HR.out.2]
        refine ⟨a0, a1, a2, ?_⟩
        first | exact ⟨c0, c1, c2, rfl, HH.out.later hbl⟩ | exact ⟨⟨c0, c1, c2, rfl⟩, HH.out.later hbl⟩

      · have HD := hid (show dropBad K X = false by rw [HDB.out, hd, hgn, decide_eq_false hz]; rfl)
        clear hd hgn
        go_wp2
        exact HGO.out HD.out _ _ _ _ _ _ _ _ _ _ _ _ _ _ _ _ _ _ _ _ _ _ _ _ _ _ _ _ _ _ _ _ _ _ _ _ _ _ _ _ _ _ _ _ _ _ _ _ _ _ _ _ _ _ _ _ _ _ _ _ _ _ _ _ _ _ _ _ _ _ _ _ _ _ _ _ _ _ _ _ _ _ _ _ _ _ _ _ _ _ _ _ _ _ _ _ _ _ _ _ _ _ _ _ _ _ _ _ _ _ _ _ _ _ _ _ _ _ _ _ _ _ _ _ _ _ _ _ _ _ _ _ _ _ _ _ _ _ _ _ _ _ _ _ _ _ _ _ _ _ _ _ _ _ _ _ _ _ _ _ _ _ _ _ _ _ _ _ _ _ _ _ _ _ _ _ _ _ _ _ _ _ _ _ _ _ _ _ _ _ _ _ _ _ _ _ _ _ _ _ _ _ _ _ _ _ _ _ _ _ _ _ _ _ _ _ _ _ _ _ _ _ _ _ _ _ _ _ _ _ _ _ _ _ _ _ _ _ _ _ _ _ _ _ _ _ _ _ _ _ _ _ _ _ _ _ _ _ _ _ _ _ _ _ _ _ _ _ _ _ _ _ _ _ _ _ _ _ _ _ _ _ _ _ _ _ _ _ _ _ _ _ _ _ _ _ 
    · rw [hgn] at s2
      have HR := hid (ret_of 6 (by rw [HC.out, HDB.out, hd, hgn]; rfl) (by omega))
      clear hd hgn
      go_upto_region 31 with fail
      obtain ⟨yz, y0, y1, y2, y3⟩ := HA14.out.bx
      have hfz := HA14.out.own.frozen
      have hz := HA14.out.own.lt
      obtain ⟨u0, k0⟩ := HA14.out.own.cell 0 (by omega)
      obtain ⟨u1, k1⟩ := HA14.out.own.cell 1 (by omega)
      obtain ⟨u2, k2⟩ := HA14.out.own.cell 2 (by omega)
      obtain ⟨u3, k3⟩ := HA14.out.own.cell 3 (by omega)
      go_wp2
      have p := fun i hi => puts_at 0 [.int .i64 K.now, .slice a0 K.svcs.length c0, .slice a1 K.cps.length c1, .slice a2 K.bts.length c2] w14 0 HA14.out.own (by simp) i hi
      have t0 := p 0 (by simp)
      have t1 := p 1 (by simp)
      have t2 := p 2 (by simp)
      have t3 := p 3 (by simp)
      simp only [puts, Nat.add_zero, Nat.zero_add, Nat.reduceAdd, List.getElem?_cons_zero, List.getElem?_cons_succ] at t0 t1 t2 t3
      have hbl := puts_below (a := w) 0 (B := w.heap.size + 2) (by omega) [.int .i64 K.now, .slice a0 K.svcs.length c0, .slice a1 K.cps.length c1, .slice a2 K.bts.length c2] w14 0 HA14.out.below
      refine bodyPost_ret (v := .tuple #[.agg #[.int .i64 K.now, .slice a0 K.svcs.length c0, .slice a1 K.cps.length c1, .slice a2 K.bts.length c2], .int .i64 6]) (by simp [results, go_sem, t0, t1, t2, t3]) rfl ⟨?_, hbl⟩
      rw [HR.out.1, HR.out.2]
      refine ⟨a0, a1, a2, ?_⟩
      first | exact ⟨c0, c1, c2, rfl, HH.out.later hbl⟩ | exact ⟨⟨c0, c1, c2, rfl⟩, HH.out.later hbl⟩

  · rw [hd] at b7
    have HD := hid (show dropBad K X = false by rw [HDB.out, hd]; rfl)
    clear hd
    go_wp2
    exact HGO.out HD.out _ _ _ _ _ _ _ _ _ _ _ _ _ _ _ _ _ _ _ _ _ _ _ _ _ _ _ _ _ _ _ _ _ _ _ _ _ _ _ _ _ _ _ _ _ _ _ _ _ _ _ _ _ _ _ _ _ _ _ _ _ _ _ _ _ _ _ _ _ _ _ _ _ _ _ _ _ _ _ _ _ _ _ _ _ _ _ _ _ _ _ _ _ _ _ _ _ _ _ _ _ _ _ _ _ _ _ _ _ _ _ _ _ _ _ _ _ _ _ _ _ _ _ _ _ _ _ _ _ _ _ _ _ _ _ _ _ _ _ _ _ _ _ _ _ _ _ _ _ _ _ _ _ _ _ _ _ _ _ _ _ _ _ _ _ _ _ _ _ _ _ _ _ _ _ _ _ _ _ _ _ _ _ _ _ _ _ _ _ _ _ _ _ _ _ _ _ _ _ _ _ _ _ _ _ _ _ _ _ _ _ _ _ _ _ _ _ _ _ _ _ _ _ _ _ _ _ _ _ _ _ _ _ _ _ _ _ _ _ _ _ _ _ _ _ _ _ _ _ _ _ _ _ _ _ _ _ _ _ _ _ _ _ _ _ _ _ _ _ _ _ _ _ _ _ _ _ _ _ _ _ _ _ _ _ _ _ _ _ _ _ _ _ _ _ _ 

end Go.Proofs.YtpamkibnahhphaaGreatDoor
