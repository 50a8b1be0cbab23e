/-
  The sea: a tick, by the specification.
-/
import Derived.Deep.MidRow
import Derived.Deep.AppendLies
import Derived.RangeFuncRecord
import Derived.Test.YtclagbakddkjcaaGreatOwn
import Derived.Test.YtclagbakddkjcaaGreatStB
import Derived.Test.YtclagbakddkjcaaGreatOwS
namespace Go.Proofs.YtclagbakddkjcaaGreat
open Go.RowKit Go.Deep

/-- A box's cells. -/
structure LBox (W : World) (p : Nat) (cs : List Value) : Prop where
  lt : p < W.heap.size
  at_ : W.rangeAt p 0 cs
theorem LBox.later {W W' : World} {p : Nat} {cs : List Value} (h : LBox W p cs) (hb : Below W.heap.size W W') : LBox W' p cs :=
  ⟨Nat.lt_of_lt_of_le h.lt hb.size, fun j v hv => (hb.cell (p := ⟨p, 0 + j, none⟩) h.lt).trans (h.at_ j v hv)⟩
theorem LBox.new (W : World) (cs : Array Value) (t : TypeId) (p : Nat) (hp : p = W.heap.size) : LBox (W.alloc (.cells cs t)) p cs.toList := by
  subst hp
  refine ⟨by simp, fun j v hv => ?_⟩
  rw [Nat.zero_add]
  refine (World.cell?_alloc_at _ _ _ _ rfl).trans ?_
  simpa using hv
theorem LBox.past {W : World} {p : Nat} {cs : List Value} (h : LBox W p cs) (x : Obj) : LBox (W.alloc x) p cs := h.later (blw_alloc (Below.refl _ _) x)
theorem LBox.get {W : World} {p : Nat} {cs : List Value} (h : LBox W p cs) (j : Nat) (v : Value) (hv : cs[j]? = some v) : W.cell? ⟨p, j, none⟩ = some v := by
  have := h.at_ j v hv
  rwa [Nat.zero_add] at this

end Go.Proofs.YtclagbakddkjcaaGreat

namespace Go.Proofs.YtclagbakddkjcaaGreat
open Go.RowKit Go.Deep

/-- How many of the first k copies stand on a berth. -/
def standTo (l : List Cp) (nm : ByteArray) : Nat → Int
  | 0 => 0
  | k + 1 => standTo l nm k + (if same (l.getD k Cp.none).berth nm then 1 else 0)
theorem standTo_le (l : List Cp) (nm : ByteArray) : ∀ k, 0 ≤ standTo l nm k ∧ standTo l nm k ≤ k
  | 0 => ⟨Int.le_refl _, Int.le_refl _⟩
  | k + 1 => by
    have := standTo_le l nm k
    rw [standTo]
    split <;> constructor <;> omega
/-- The best of the first i berths, and how many stand there. -/
def leastTo (K : SBk) : Nat → ByteArray × Int
  | 0 => (ByteArray.empty, 0)
  | i + 1 =>
    if !(K.bts.getD i Bt.none).drain && (same (leastTo K i).1 ByteArray.empty || decide (standTo K.cps (K.bts.getD i Bt.none).nm K.cps.length < (leastTo K i).2)) then ((K.bts.getD i Bt.none).nm, standTo K.cps (K.bts.getD i Bt.none).nm K.cps.length) else leastTo K i
theorem leastTo_le (K : SBk) : ∀ i, 0 ≤ (leastTo K i).2 ∧ (leastTo K i).2 ≤ K.cps.length
  | 0 => ⟨Int.le_refl _, by simp [leastTo]⟩
  | i + 1 => by
    have h := leastTo_le K i
    rw [leastTo]
    split
    · exact standTo_le _ _ _
    · exact h
def leastOf (K : SBk) : ByteArray := (leastTo K K.bts.length).1

set_option maxRecDepth 8000 in
set_option maxHeartbeats 16000000 in
theorem l17LeastS (K : SBk) (a0 a1 a2 : Option Addr) (c0 c1 c2 : Nat) (w : World) (h : SBkV w a0 a1 a2 K) (hlc : K.cps.length ≤ 1048576) :
    Calls Tryz.prog 66 #[.agg #[.int .i64 K.now, .slice a0 K.svcs.length c0, .slice a1 K.cps.length c1, .slice a2 K.bts.length c2]] w fun e w' => e = .returned (.string (leastOf K)) ∧ Below w.heap.size w w' := by
  have HH := hid h
  have hlb := h.b.len
  unfold maxLen at hlb
  clear h
  obtain ⟨wa, hwa⟩ : ∃ wa, wa = w.alloc (.cells #[.int .i64 K.now, .slice a0 K.svcs.length c0, .slice a1 K.cps.length c1, .slice a2 K.bts.length c2] 37) := ⟨_, rfl⟩
  have HB : Hid (Below w.heap.size w wa) := by show Below _ _ _; rw [hwa]; exact blw_alloc (Below.refl _ _) _
  have HX : Hid (Box4 wa w.heap.size (.int .i64 K.now) (.slice a0 K.svcs.length c0) (.slice a1 K.cps.length c1) (.slice a2 K.bts.length c2)) := by show Box4 _ _ _ _ _ _; rw [hwa]; exact Box4.new' w _ _ _ _ _ _ rfl
  go_enter Tryz.func66, Tryz.ntmps66
  go_upto_region 1 with fail
  rw [← hwa]
  clear hwa
  go_wp2
  go_loopw [3, 4, 5] (fun bs ls i wr => ∃ k : Nat, k ≤ K.bts.length ∧ i = .int .i64 k ∧ bs = .string (leastTo K k).1 ∧ ls = .int .i64 (leastTo K k).2 ∧ Below wa.heap.size wa wr) (fun _ _ i _ => K.bts.length - (intOf i).toNat)
  case atStart => exact ⟨0, Nat.zero_le _, rfl, rfl, rfl, Below.refl _ _⟩
  case round =>
    obtain ⟨k, hk, rfl, rfl, rfl, hW⟩ := hrel
    have HW := hid hW
    clear hW
    obtain ⟨yz, y0, y1, y2, y3⟩ := HX.out.later HW.out
    by_cases hlt : k < K.bts.length
    · obtain ⟨b2, off2, ha2, hbl2, hf2⟩ := (HH.out.b.later (blw_trans HB.out HW.out)).at_ k hlt
      subst ha2
      have HLE := hid (leastTo_le K k)
      have HNX : Hid (leastTo K (k + 1) = if !(K.bts.getD k Bt.none).drain && (same (leastTo K k).1 ByteArray.empty || decide (standTo K.cps (K.bts.getD k Bt.none).nm K.cps.length < (leastTo K k).2)) then ((K.bts.getD k Bt.none).nm, standTo K.cps (K.bts.getD k Bt.none).nm K.cps.length) else leastTo K k) := rfl
      obtain ⟨m, hm⟩ : ∃ m, m = K.bts.getD k Bt.none := ⟨_, rfl⟩
      obtain ⟨P, hP⟩ : ∃ P, P = leastTo K k := ⟨_, rfl⟩
      rw [← hm] at hf2 HNX
      rw [← hP] at HLE HNX ⊢
      obtain ⟨bs, ls⟩ := P
      have HM := hid hm
      clear hm hP
      obtain ⟨f0, f1, _⟩ := hf2
      have hm0 : (0 : Int) ≤ (k : Int) := by omega
      have hm3 : (k : Int) < (K.bts.length : Int) := by omega
      go_wp2
      clear yz y0 y1 y2 y3 f0 f1
      go_loopw [6, 7] (fun n j wr => ∃ q : Nat, q ≤ K.cps.length ∧ j = .int .i64 q ∧ n = .int .i64 (standTo K.cps m.nm q) ∧ Below wa.heap.size wa wr) (fun _ j _ => K.cps.length - (intOf j).toNat)
      case atStart => exact ⟨0, Nat.zero_le _, rfl, rfl, HW.out⟩
      case round =>
        obtain ⟨q, hq, rfl, rfl, hW2⟩ := hrel
        have HW2 := hid hW2
        clear hW2
        have hsl := standTo_le K.cps m.nm q
        obtain ⟨yz, y0, y1, y2, y3⟩ := HX.out.later HW2.out
        obtain ⟨b2', off2', ha2', hbl2, hf2⟩ := (HH.out.b.later (blw_trans HB.out HW2.out)).at_ k hlt
        injection ha2' with ha2'
        injection ha2' with e1 e2 _
        subst e1 e2
        rw [← HM.out] at hf2
        obtain ⟨f0, f1, _⟩ := hf2
        by_cases hlt2 : q < K.cps.length
        · obtain ⟨b1, off1, ha1, hbl1, hf1⟩ := (HH.out.c.later (blw_trans HB.out HW2.out)).at_ q hlt2
          subst ha1
          have HNS : Hid (standTo K.cps m.nm (q + 1) = standTo K.cps m.nm q + (if same (K.cps.getD q Cp.none).berth m.nm then 1 else 0)) := rfl
          obtain ⟨x, hx⟩ : ∃ x, x = K.cps.getD q Cp.none := ⟨_, rfl⟩
          rw [← hx] at hf1 HNS
          obtain ⟨d0, d1, d2, d3, d4, d5, d6, _⟩ := hf1
          obtain ⟨st, hst⟩ : ∃ st, st = standTo K.cps m.nm q := ⟨_, rfl⟩
          rw [← hst] at hsl HNS ⊢
          obtain ⟨s0, s1⟩ := hsl
          clear hx hst
          have hq0 : (0 : Int) ≤ (q : Int) := by omega
          have hq3 : (q : Int) < (K.cps.length : Int) := by omega
          cases hc : (x.berth.toList == m.nm.toList)
          · have HN : Hid (standTo K.cps m.nm (q + 1) = st) := by show _ = _; rw [HNS.out, if_neg (by unfold same; rw [hc]; decide)]; omega
            clear HNS
            go_upto_region 10 with fail
            go_quiet (fail)
            go_wp2
            go_roundw
            case rel => exact ⟨q + 1, by omega, by go_num, by rw [HN.out], blw_drewN HW2.out _⟩
            case measure => simp [intOf]; omega
          · have HN : Hid (standTo K.cps m.nm (q + 1) = st + 1) := by show _ = _; rw [HNS.out, if_pos (by unfold same; exact hc)]
            clear HNS
            go_upto_region 10 with fail
            go_quiet (fail)
            go_wp2
            go_roundw
            case rel => exact ⟨q + 1, by omega, by go_num, by rw [HN.out], blw_drewN HW2.out _⟩
            case measure => simp [intOf]; omega
        · obtain rfl : q = K.cps.length := by omega
          obtain ⟨st, hst⟩ : ∃ st, st = standTo K.cps m.nm K.cps.length := ⟨_, rfl⟩
          rw [← hst] at hsl HNX ⊢
          obtain ⟨s0, s1⟩ := hsl
          clear hst
          have HNX2 : Hid (leastTo K (k + 1) = if !m.drain && ((bs.toList == []) || decide (st < ls)) then (m.nm, st) else (bs, ls)) := by
            have ee : ByteArray.empty.toList = [] := by simp [ByteArray.toList, ByteArray.toList.loop]
            have := HNX.out
            unfold same at this
            rw [ee] at this
            exact this
          obtain ⟨l0, l1⟩ := HLE.out
          clear HNX HLE
          cases hd : m.drain
          · rw [hd] at f1
            by_cases hb : bs.toList = []
            rotate_left
            · have hbe : bs.toList.isEmpty = false := by rw [List.isEmpty_eq_false_iff]; exact hb
              by_cases hs : st < ls
              · have HN : Hid (leastTo K (k + 1) = (m.nm, st)) := by show _ = _; rw [HNX2.out, hd, decide_eq_true hs]; simp
                clear HNX2
                go_wp2
                go_roundw
                case rel => exact ⟨k + 1, by omega, by go_num, by rw [HN.out], by rw [HN.out], HW2.out⟩
                case measure => simp [intOf]; omega
              · have HN : Hid (leastTo K (k + 1) = (bs, ls)) := by show _ = _; rw [HNX2.out, hd, decide_eq_false hs]; simp [hb]
                have hsb : decide (st < ls) = false := decide_eq_false hs
                clear HNX2 hs
                go_wp2
                go_roundw
                case rel => exact ⟨k + 1, by omega, by go_num, by rw [HN.out], by rw [HN.out], HW2.out⟩
                case measure => simp [intOf]; omega
            · have HN : Hid (leastTo K (k + 1) = (m.nm, st)) := by show _ = _; rw [HNX2.out, hd]; simp [hb]
              clear HNX2
              go_wp2
              go_roundw
              case rel => exact ⟨k + 1, by omega, by go_num, by rw [HN.out], by rw [HN.out], HW2.out⟩
              case measure => simp [intOf]; omega
          · rw [hd] at f1
            have HN : Hid (leastTo K (k + 1) = (bs, ls)) := by show _ = _; rw [HNX2.out, hd]; rfl
            clear HNX2
            go_wp2
            go_roundw
            case rel => exact ⟨k + 1, by omega, by go_num, by rw [HN.out], by rw [HN.out], HW2.out⟩
            case measure => simp [intOf]; omega
    · obtain rfl : k = K.bts.length := by omega
      go_wp2
      go_ret
      exact ⟨rfl, blw_trans HB.out HW.out⟩

end Go.Proofs.YtclagbakddkjcaaGreat

namespace Go.Proofs.YtclagbakddkjcaaGreat
open Go.RowKit Go.Deep

/-- What starts is ready. -/
def tick1 (v : Int) (c : Cp) : Cp := if c.state = 2 then ⟨c.svc, c.num, v, c.image, 3, c.ending, c.berth⟩ else c
def leftTo (l : List Cp) (v : Int) (k : Nat) : List Cp := ((l.take k).filter fun c => !c.ending).map (tick1 v)
theorem leftTo_succ (l : List Cp) (v : Int) {k : Nat} (hk : k < l.length) : leftTo l v (k + 1) = leftTo l v k ++ (if (l.getD k Cp.none).ending then [] else [tick1 v (l.getD k Cp.none)]) := by
  have e : l[k]? = some (l.getD k Cp.none) := by simp [hk]
  unfold leftTo
  rw [List.take_add_one, e, List.filter_append, List.map_append]
  congr 1
  obtain ⟨c, hc⟩ : ∃ c, c = l.getD k Cp.none := ⟨_, rfl⟩
  rw [← hc]
  clear hc e
  cases h : c.ending <;> simp [h]
theorem leftTo_len (l : List Cp) (v : Int) (k : Nat) : (leftTo l v k).length ≤ l.length := by
  unfold leftTo
  rw [List.length_map]
  exact Nat.le_trans (List.length_filter_le _ _) (by simp; omega)
theorem owns_scn {W : World} {lo e size n p : Nat} {v : Value} {xs : List Value} (h : W.ownsRow lo e size v n xs) (hp : ∀ g, v.ownBlock = some g → g ≠ p) (o : Nat) (x : Value) : (W.setCell ⟨p, o, none⟩ x).ownsRow lo e size v n xs := by
  refine ⟨h.1, ?_⟩
  rcases h.2 with q | ⟨g, cap, cur, q1, q2, q3, q4⟩
  · exact Or.inl q
  · exact Or.inr ⟨g, cap, cur, q1, q2, (Below.heap_setCell W ⟨p, o, none⟩ x g (hp g (by rw [q1]; rfl))).trans q3, q4⟩
theorem Tryz.infCp' : (Tryz.prog.info? 81).map (fun i => (i.zero, i.size, i.bytes)) = some (some (.agg #[.string ByteArray.empty, .int .i64 0, .int .i64 0, .int .i64 0, .int .i64 0, .bool false, .string ByteArray.empty]), 7, 72) := by kernel_rfl
theorem Tryz.undCp' : Tryz.prog.underlying 34 = some (.slice 81) := by kernel_rfl

/-- What waits starts, one after the other. -/
def tickS (K : SBk) (v : Int) (M : List Cp) (i : Nat) : List Cp :=
  if ((M.getD i Cp.none).state == 1) && !(leastOf ⟨K.now, K.svcs, M, K.bts⟩).toList.isEmpty then M.set i ⟨(M.getD i Cp.none).svc, (M.getD i Cp.none).num, v, (M.getD i Cp.none).image, 2, (M.getD i Cp.none).ending, leastOf ⟨K.now, K.svcs, M, K.bts⟩⟩ else M
def tickTo (K : SBk) (v : Int) : Nat → List Cp
  | 0 => leftTo K.cps v K.cps.length
  | i + 1 => tickS K v (tickTo K v i) i
def tickOf (K : SBk) (v : Int) : List Cp := tickTo K v (leftTo K.cps v K.cps.length).length
theorem left_sized {l : List Cp} (h : ∀ i, i < l.length → (l.getD i Cp.none).sized) (v : Int) (k : Nat) : ∀ c, c ∈ leftTo l v k → c.sized := by
  intro c hc
  obtain ⟨d, hd, e⟩ := List.mem_map.1 hc
  have hm := List.mem_of_mem_take (List.mem_filter.1 hd).1
  obtain ⟨i, hi, ei⟩ := List.getElem_of_mem hm
  have := h i hi
  have e2 : l.getD i Cp.none = d := by simp [hi, ei]
  rw [e2] at this
  rw [← e]
  unfold tick1
  split
  · exact this
  · exact this
theorem least_sized {K : SBk} (h : ∀ i, i < K.bts.length → (K.bts.getD i Bt.none).sized) : ∀ i, i ≤ K.bts.length → (leastTo K i).1.size ≤ maxLen
  | 0, _ => by simp [leastTo]
  | i + 1, hi => by
    rw [leastTo]
    split
    · exact h i (by omega)
    · exact least_sized h i (by omega)

/-- What is kept while copies are started. -/
structure TkI (K : SBk) (a0 a2 : Option Addr) (c0 c2 : Nat) (a : Option Addr) (c : Nat) (w W : World) (M : List Cp) (n : Nat) : Prop where
  bel : Below w.heap.size w W
  bk : Box4 W w.heap.size (.int .i64 K.now) (.slice a0 K.svcs.length c0) (.slice a n c) (.slice a2 K.bts.length c2)
  res : OwnBlk W (w.heap.size + 1) 37 4
  row : W.ownsRow (w.heap.size + 2) 81 7 (.slice a n c) n (M.flatMap CpC)
  len : M.length = n
  szd : ∀ i, i < M.length → (M.getD i Cp.none).sized
theorem TkI.later {K : SBk} {a0 a2 a : Option Addr} {c0 c2 c n : Nat} {w W W' : World} {M : List Cp} (h : TkI K a0 a2 c0 c2 a c w W M n) (hb : Below W.heap.size W W') : TkI K a0 a2 c0 c2 a c w W' M n :=
  ⟨blw_trans h.bel hb, h.bk.later hb, h.res.later hb, owns_on h.row hb, h.len, h.szd⟩
theorem TkI.v {K : SBk} {a0 a1 a2 a : Option Addr} {c0 c2 c n : Nat} {w W : World} {M : List Cp} (h : TkI K a0 a2 c0 c2 a c w W M n) (hk : SBkV w a0 a1 a2 K) (hn : n ≤ 1048576) : SBkV W a0 a a2 ⟨K.now, K.svcs, M, K.bts⟩ := by
  refine ⟨hk.s.later h.bel, ?_, hk.b.later h.bel⟩
  have hr := h.row
  rw [← h.len] at hr
  obtain ⟨a', c', e, hv⟩ := owns_Cps hr h.szd (by rw [h.len]; unfold maxLen; omega)
  injection e with e1 _ _
  subst e1
  exact hv
theorem TkI.set {K : SBk} {a0 a2 : Option Addr} {c0 c2 c n g : Nat} {w W : World} {M : List Cp} (h : TkI K a0 a2 c0 c2 (some ⟨g, 0, none⟩) c w W M n) (hg : w.heap.size + 2 ≤ g) (k j : Nat) (hk : k < M.length) (hj : j < 7) (x : Value) (m : Cp) (hm : CpC m = (CpC (M.getD k Cp.none)).set j x) (hz : m.sized) : TkI K a0 a2 c0 c2 (some ⟨g, 0, none⟩) c w (W.setCell ⟨g, k * 7 + j, none⟩ x) (M.set k m) n := by
  have e : ∀ b o, b ≠ g → (W.setCell ⟨g, k * 7 + j, none⟩ x).cell? ⟨b, o, none⟩ = W.cell? ⟨b, o, none⟩ := fun b o hb => sc_ne _ _ _ _ _ _ (Or.inl hb)
  refine ⟨?_, ⟨by simpa [World.setCell] using h.bk.lt, (e _ _ (by omega)).trans h.bk.x0, (e _ _ (by omega)).trans h.bk.x1, (e _ _ (by omega)).trans h.bk.x2, (e _ _ (by omega)).trans h.bk.x3⟩, h.res.sc_other (by omega) _ _, ?_, by rw [List.length_set]; exact h.len, fun i hi => ?_⟩
  · exact puts_below (k * 7 + j) (by omega) [x] _ 0 h.bel
  · rw [← flat_set Cp.none CpC 7 CpC_len j hj x M k m hk hm]
    exact owns_set h.row _ _
  · rw [List.length_set] at hi
    by_cases q : k = i
    · subst q
      have : (M.set k m).getD k Cp.none = m := by simp [hk]
      rw [this]; exact hz
    · have : (M.set k m).getD i Cp.none = M.getD i Cp.none := by simp [q]
      rw [this]; exact h.szd i hi
theorem owns_ob {W : World} {lo e size n g c : Nat} {xs : List Value} (h : W.ownsRow lo e size (.slice (some ⟨g, 0, none⟩) n c) n xs) : ∃ m, OwnBlk W g e m := by
  rcases h.2 with ⟨hv, _⟩ | ⟨g', cap, cur, hv, _, hg, _⟩
  · cases hv
  · injection hv with a _ _
    injection a with a
    injection a with a _ _
    subst a
    exact ⟨cur.size, cur, hg, rfl⟩

set_option maxRecDepth 8000 in
set_option maxHeartbeats 16000000 in
theorem l17TickS (K : SBk) (a0 a1 a2 : Option Addr) (c0 c1 c2 : Nat) (v : Int) (w : World) (h : SBkV w a0 a1 a2 K) (hlc : K.cps.length ≤ 1048576) :
    Calls Tryz.prog 44 #[.agg #[.int .i64 K.now, .slice a0 K.svcs.length c0, .slice a1 K.cps.length c1, .slice a2 K.bts.length c2], .int .i64 v] w fun e w' => (∃ a c, e = .returned (.agg #[.int .i64 K.now, .slice a0 K.svcs.length c0, .slice a (tickOf K v).length c, .slice a2 K.bts.length c2]) ∧ w'.ownsRow (w.heap.size + 2) 81 7 (.slice a (tickOf K v).length c) (tickOf K v).length ((tickOf K v).flatMap CpC) ∧ ∀ i, i < (tickOf K v).length → ((tickOf K v).getD i Cp.none).sized) ∧ Below w.heap.size w w' := by
  have HH := hid h
  obtain ⟨i0, hi, hz0, hz1, hz2⟩ := info_parts Tryz.infCp'
  clear h
  obtain ⟨wx, hwx⟩ : ∃ wx, wx = w.alloc (.cells #[.int .i64 K.now, .slice a0 K.svcs.length c0, .slice a1 K.cps.length c1, .slice a2 K.bts.length c2] 37) := ⟨_, rfl⟩
  have hx : wx.heap.size = w.heap.size + 1 := by rw [hwx]; exact Array.size_push _
  obtain ⟨wa, hwa⟩ : ∃ wa, wa = wx.alloc (.cells #[.int .i64 0, .slice none 0 0, .slice none 0 0, .slice none 0 0] 37) := ⟨_, rfl⟩
  have hbx : Below w.heap.size w wx := by rw [hwx]; exact blw_alloc (Below.refl _ _) _
  have hbxa : Below wx.heap.size wx wa := by rw [hwa]; exact blw_alloc (Below.refl _ _) _
  have HB := hid (blw_trans hbx hbxa)
  have HX : Hid (Box4 wa w.heap.size (.int .i64 K.now) (.slice a0 K.svcs.length c0) (.slice a1 K.cps.length c1) (.slice a2 K.bts.length c2)) := by
    have : Box4 wx w.heap.size (.int .i64 K.now) (.slice a0 K.svcs.length c0) (.slice a1 K.cps.length c1) (.slice a2 K.bts.length c2) := by rw [hwx]; exact Box4.new' w _ _ _ _ _ _ rfl
    exact this.later hbxa
  have HXO : Hid (OwnBlk wa w.heap.size 37 4) := by
    have : OwnBlk wx w.heap.size 37 4 := by rw [hwx]; exact OwnBlk.alloc w _ _ _ rfl
    exact this.later hbxa
  have HR : Hid (OwnBlk wa (w.heap.size + 1) 37 4) := by show OwnBlk _ _ _ _; rw [hwa, ← hx]; exact OwnBlk.alloc wx _ _ _ rfl
  go_enter Tryz.func44, Tryz.ntmps44
  go_upto_region 1 with fail
  rw [← hwx, ← hwa]
  have HSZ : Hid (wa.heap.size = w.heap.size + 2) := by show _ = _; rw [hwa]; exact (Array.size_push _).trans (by rw [hx])
  clear hwx hwa hbx hbxa hx
  obtain ⟨wb, hwb⟩ : ∃ wb, wb = wa.alloc (.cells #[] 81) := ⟨_, rfl⟩
  have hwz : wa.heap.size = w.heap.size + 2 := HSZ.out
  have HO0 : Hid (wb.ownsRow (w.heap.size + 2) 81 7 (.slice (some ⟨w.heap.size + 2, 0, none⟩) 0 0) 0 []) := by
    refine ⟨by simp, Or.inr ⟨w.heap.size + 2, 0, #[], rfl, Nat.le_refl _, ?_, Nat.le_refl _, by simp, by simp, by simp⟩⟩
    rw [hwb, ← hwz]
    exact World.alloc_heap_new _ _
  have HBb : Hid (Below wa.heap.size wa wb) := by show Below _ _ _; rw [hwb]; exact blw_alloc (Below.refl _ _) _
  go_upto_region 3 with fail
  rw [← hwb]
  have HWB : Hid (w.heap.size + 2 < wb.heap.size) := by show _ < _; rw [hwb, ← hwz]; simp
  clear hwb hwz
  go_loopw [5, 6] (fun u i wr => ∃ k : Nat, k ≤ K.cps.length ∧ i = .int .i64 k ∧ wr.ownsRow (w.heap.size + 2) 81 7 u (leftTo K.cps v k).length ((leftTo K.cps v k).flatMap CpC) ∧ Below wa.heap.size wa wr) (fun _ i _ => K.cps.length - (intOf i).toNat)
  case atStart => exact ⟨0, Nat.zero_le _, rfl, HO0.out, HBb.out⟩
  case round =>
    rename_i uv _ _
    obtain ⟨k, hk, rfl, hO, hW⟩ := hrel
    have HO := hid hO
    have HW := hid hW
    obtain ⟨a, c, hv⟩ := owns_is hO
    subst hv
    clear hO hW
    obtain ⟨yz, y0, y1, y2, y3⟩ := HX.out.later HW.out
    by_cases hlt : k < K.cps.length
    · obtain ⟨b1, off1, ha1, hbl1, hf1⟩ := (HH.out.c.later (blw_trans HB.out HW.out)).at_ k hlt
      subst ha1
      have HS := hid (leftTo_succ K.cps v hlt)
      have hle := leftTo_len K.cps v k
      obtain ⟨x, hx⟩ : ∃ x, x = K.cps.getD k Cp.none := ⟨_, rfl⟩
      rw [← hx] at hf1 HS
      obtain ⟨M, hM⟩ : ∃ M, M = leftTo K.cps v k := ⟨_, rfl⟩
      rw [← hM] at HO HS hle ⊢
      clear hx hM
      obtain ⟨e0, e1, e2, e3, e4, e5, e6, _⟩ := hf1
      have hm0 : (0 : Int) ≤ (k : Int) := by omega
      have hm3 : (k : Int) < (K.cps.length : Int) := by omega
      obtain ⟨w1, hw1⟩ : ∃ w1, w1 = wr.alloc (.cells #[.string x.svc, .int .i64 x.num, .int .i64 x.ver, .int .i64 x.image, .int .i64 x.state, .bool x.ending, .string x.berth] 81) := ⟨_, rfl⟩
      have HB1 : Hid (Below wa.heap.size wa w1) := by show Below _ _ _; rw [hw1]; exact blw_alloc HW.out _
      have HO1 : Hid (w1.ownsRow (w.heap.size + 2) 81 7 (.slice a M.length c) M.length (M.flatMap CpC)) := by show World.ownsRow _ _ _ _ _ _ _; rw [hw1]; exact owns_on HO.out (blw_alloc (Below.refl _ _) _)
      obtain ⟨q1, hq1⟩ : ∃ q1, q1 = wr.heap.size := ⟨_, rfl⟩
      have HC1 : Hid (LBox w1 q1 [.string x.svc, .int .i64 x.num, .int .i64 x.ver, .int .i64 x.image, .int .i64 x.state, .bool x.ending, .string x.berth]) := by show LBox _ _ _; rw [hw1]; exact LBox.new _ _ _ _ hq1
      have HQ1 : Hid ((∀ g, (Value.slice a M.length c).ownBlock = some g → g ≠ q1) ∧ wa.heap.size ≤ q1 ∧ OwnBlk w1 q1 81 7) := by
        refine ⟨fun g hg => ?_, by rw [hq1]; exact HW.out.size, by rw [hw1, hq1]; exact OwnBlk.alloc wr _ _ _ rfl⟩
        have := (World.ownsRow.lt HO.out g hg).2
        omega
      go_upto_region 6 with fail
      rw [← hw1, ← hq1]
      clear hw1 hq1 e0 e1 e2 e3 e4 e5 e6 hbl1 HO HW yz y0 y1 y2 y3
      have cz1 := HC1.out.lt
      have f4 := HC1.out.get 4 _ rfl
      have f5 := HC1.out.get 5 _ rfl
      cases hen : x.ending
      · rw [hen] at f5
        rw [if_neg (by rw [hen]; decide)] at HS
        by_cases hst : x.state = 2
        · obtain ⟨y, hy⟩ : ∃ y, y = tick1 v x := ⟨_, rfl⟩
          have HN : Hid (leftTo K.cps v (k + 1) = M ++ [y]) := by show _ = _; rw [HS.out, hy]
          rw [hst] at f4
          obtain ⟨w2, hw2⟩ : ∃ w2, w2 = (w1.setCell ⟨q1, 4, none⟩ (.int .i64 3)).setCell ⟨q1, 2, none⟩ (.int .i64 v) := ⟨_, rfl⟩
          have HB2 : Hid (Below wa.heap.size wa w2) := by
            show Below _ _ _
            rw [hw2]
            exact puts_below 2 HQ1.out.2.1 [.int .i64 v] _ 0 (puts_below 4 HQ1.out.2.1 [.int .i64 3] _ 0 HB1.out)
          have HO2 : Hid (w2.ownsRow (w.heap.size + 2) 81 7 (.slice a M.length c) M.length (M.flatMap CpC)) := by
            show World.ownsRow _ _ _ _ _ _ _
            rw [hw2]
            exact owns_scn (owns_scn HO1.out HQ1.out.1 _ _) HQ1.out.1 _ _
          have HC2 : Hid (LBox w2 q1 [.string y.svc, .int .i64 y.num, .int .i64 y.ver, .int .i64 y.image, .int .i64 y.state, .bool y.ending, .string y.berth]) := by
            have o1 := HQ1.out.2.2
            have o2 := o1.setCell 4 (.int .i64 3)
            refine ⟨by rw [hw2]; exact (o2.setCell 2 (.int .i64 v)).lt, fun j u hu => ?_⟩
            have hy' : y = ⟨x.svc, x.num, v, x.image, 3, x.ending, x.berth⟩ := by rw [hy, tick1, if_pos hst]
            rw [hy'] at hu
            rw [hw2, Nat.zero_add]
            have g := fun j (h2 : j ≠ 2) (h4 : j ≠ 4) => (sc_ne (w1.setCell ⟨q1, 4, none⟩ (.int .i64 3)) q1 2 (.int .i64 v) q1 j (Or.inr h2)).trans (sc_ne w1 q1 4 (.int .i64 3) q1 j (Or.inr h4))
            match j, hu with
            | 0, hu => exact (g 0 (by decide) (by decide)).trans ((HC1.out.get 0 _ rfl).trans hu)
            | 1, hu => exact (g 1 (by decide) (by decide)).trans ((HC1.out.get 1 _ rfl).trans hu)
            | 2, hu => exact (sc_eq o2 2 (by omega) _).trans hu
            | 3, hu => exact (g 3 (by decide) (by decide)).trans ((HC1.out.get 3 _ rfl).trans hu)
            | 4, hu => exact (sc_ne _ _ _ _ _ _ (Or.inr (by decide))).trans ((sc_eq o1 4 (by omega) _).trans hu)
            | 5, hu => exact (g 5 (by decide) (by decide)).trans ((HC1.out.get 5 _ rfl).trans hu)
            | 6, hu => exact (g 6 (by decide) (by decide)).trans ((HC1.out.get 6 _ rfl).trans hu)
            | n + 7, hu => simp at hu
          have hs2 : w.heap.size + 2 ≤ w2.heap.size := by have := HB2.out.size; have := HSZ.out; omega
          have f2 := HC1.out.get 2 _ rfl
          have ff := HQ1.out.2.2.frozen
          go_upto_region 10 with fail
          rw [← hw2]
          clear hw2 f2 f4 f5 ff cz1 HB1 HO1 HC1 HQ1 HS hy hst
          have cz := HC2.out.lt
          have d0 := HC2.out.get 0 _ rfl
          have d1 := HC2.out.get 1 _ rfl
          have d2 := HC2.out.get 2 _ rfl
          have d3 := HC2.out.get 3 _ rfl
          have d4 := HC2.out.get 4 _ rfl
          have d5 := HC2.out.get 5 _ rfl
          have d6 := HC2.out.get 6 _ rfl
          go_wp2_with (at_builtin; refine wpList_append_own _ rfl _ _ 34 rfl (w.heap.size + 2) 81 i0 _ 7 72 Tryz.undCp' hi hz0 hz1 hz2 rfl (by decide) (.slice a M.length c) M.length (M.flatMap CpC) rfl ?c10 ⟨w2.heap.size, 0, none⟩ 1 1 (CpC y) rfl ?c11 ?c12 ?c13 ?c14 ?c15 ?c16 ?_)
          case c10 => exact owns_on HO2.out (blw_alloc (Below.refl _ _) _)
          case c11 => rfl
          case c12 => exact World.news_of_block (World.alloc_heap_new _ _)
          case c13 => intro u hu; exact CpC_one [y] u (by simpa using hu)
          case c14 => unfold maxLen; omega
          case c15 => omega
          case c16 => simp; omega
          intro v' w3 hown hgrow _
          have hbt : Below w2.heap.size w2 (w2.alloc (.cells #[.string y.svc, .int .i64 y.num, .int .i64 y.ver, .int .i64 y.image, .int .i64 y.state, .bool y.ending, .string y.berth] 81)) := blw_alloc (Below.refl _ _) _
          have HN2 : Hid (w3.ownsRow (w.heap.size + 2) 81 7 v' (M ++ [y]).length ((M ++ [y]).flatMap CpC)) := by
            show World.ownsRow _ _ _ _ _ _ _
            simpa using hown
          have HB3 : Hid (Below wa.heap.size wa w3) := by
            refine Below.grown (blw_trans HB2.out hbt) hgrow (blw_trans HB2.out hbt).size (fun q hq => ?_)
            have := (World.ownsRow.lt HO2.out q hq).1
            have := HSZ.out
            omega
          clear hown hgrow hbt HO2
          go_wp2
          go_roundw
          case rel => exact ⟨k + 1, by omega, by go_num, by rw [HN.out]; exact HN2.out, HB3.out⟩
          case measure => simp [intOf]; omega
        · have HN : Hid (leftTo K.cps v (k + 1) = M ++ [x]) := by show _ = _; rw [HS.out, tick1, if_neg hst]
          have hsb : (x.state == 2) = false := by simpa using hst
          obtain ⟨y, hy⟩ : ∃ y, y = x := ⟨_, rfl⟩
          obtain ⟨w2, hw2⟩ : ∃ w2, w2 = w1 := ⟨_, rfl⟩
          have hs2 : w.heap.size + 2 ≤ w2.heap.size := by rw [hw2]; have := HB1.out.size; have := HSZ.out; omega
          have HB2 := HB1
          have HO2 := HO1
          have HC2 := HC1
          rw [← hw2] at HB2 HO2 HC2
          rw [← hy] at HC2 HN
          go_upto_region 10 with fail
          rw [← hw2]
          clear hw2 f4 f5 cz1 HB1 HO1 HC1 HQ1 HS hy hst hsb
          have cz := HC2.out.lt
          have d0 := HC2.out.get 0 _ rfl
          have d1 := HC2.out.get 1 _ rfl
          have d2 := HC2.out.get 2 _ rfl
          have d3 := HC2.out.get 3 _ rfl
          have d4 := HC2.out.get 4 _ rfl
          have d5 := HC2.out.get 5 _ rfl
          have d6 := HC2.out.get 6 _ rfl
          go_wp2_with (at_builtin; refine wpList_append_own _ rfl _ _ 34 rfl (w.heap.size + 2) 81 i0 _ 7 72 Tryz.undCp' hi hz0 hz1 hz2 rfl (by decide) (.slice a M.length c) M.length (M.flatMap CpC) rfl ?c20 ⟨w2.heap.size, 0, none⟩ 1 1 (CpC y) rfl ?c21 ?c22 ?c23 ?c24 ?c25 ?c26 ?_)
          case c20 => exact owns_on HO2.out (blw_alloc (Below.refl _ _) _)
          case c21 => rfl
          case c22 => exact World.news_of_block (World.alloc_heap_new _ _)
          case c23 => intro u hu; exact CpC_one [y] u (by simpa using hu)
          case c24 => unfold maxLen; omega
          case c25 => omega
          case c26 => simp; omega
          intro v' w3 hown hgrow _
          have hbt : Below w2.heap.size w2 (w2.alloc (.cells #[.string y.svc, .int .i64 y.num, .int .i64 y.ver, .int .i64 y.image, .int .i64 y.state, .bool y.ending, .string y.berth] 81)) := blw_alloc (Below.refl _ _) _
          have HN2 : Hid (w3.ownsRow (w.heap.size + 2) 81 7 v' (M ++ [y]).length ((M ++ [y]).flatMap CpC)) := by
            show World.ownsRow _ _ _ _ _ _ _
            simpa using hown
          have HB3 : Hid (Below wa.heap.size wa w3) := by
            refine Below.grown (blw_trans HB2.out hbt) hgrow (blw_trans HB2.out hbt).size (fun q hq => ?_)
            have := (World.ownsRow.lt HO2.out q hq).1
            have := HSZ.out
            omega
          clear hown hgrow hbt HO2
          go_wp2
          go_roundw
          case rel => exact ⟨k + 1, by omega, by go_num, by rw [HN.out]; exact HN2.out, HB3.out⟩
          case measure => simp [intOf]; omega
      · rw [hen] at f5
        rw [if_pos hen, List.append_nil] at HS
        go_wp2
        go_roundw
        case rel => exact ⟨k + 1, by omega, by go_num, by rw [HS.out]; exact HO1.out, HB1.out⟩
        case measure => simp [intOf]; omega
    · obtain rfl : k = K.cps.length := by omega
      have hle := leftTo_len K.cps v K.cps.length
      have HSZD : Hid (∀ i, i < K.bts.length → (K.bts.getD i Bt.none).sized) := fun i hi => by
        obtain ⟨_, _, _, _, hf⟩ := HH.out.b.at_ i hi
        exact hf.sized
      have HI0 : Hid (TkI K a0 a2 c0 c2 a c w (wr.setCell ⟨w.heap.size, 2, none⟩ (.slice a (leftTo K.cps v K.cps.length).length c)) (tickTo K v 0) (leftTo K.cps v K.cps.length).length) := by
        have hb := blw_trans HB.out HW.out
        have hx := HX.out.later HW.out
        have e : ∀ b o, (b ≠ w.heap.size ∨ o ≠ 2) → (wr.setCell ⟨w.heap.size, 2, none⟩ (.slice a (leftTo K.cps v K.cps.length).length c)).cell? ⟨b, o, none⟩ = wr.cell? ⟨b, o, none⟩ := fun b o h => sc_ne _ _ _ _ _ _ h
        refine ⟨puts_below 2 (Nat.le_refl _) [_] _ 0 hb, ⟨by simpa [World.setCell] using hx.lt, (e _ _ (Or.inr (by decide))).trans hx.x0, (e _ _ (Or.inr (by decide))).trans hx.x1, ?_, (e _ _ (Or.inr (by decide))).trans hx.x3⟩, ((HR.out.later HW.out)).sc_other (by omega) _ _, owns_scn HO.out (fun g hg => by have := (World.ownsRow.lt HO.out g hg).1; omega) _ _, rfl, fun i hi => ?_⟩
        · exact sc_eq (HXO.out.later HW.out) 2 (by omega) _
        · have e3 : (tickTo K v 0).getD i Cp.none = (tickTo K v 0)[i] := by simp [hi]
          rw [e3]
          refine left_sized (fun i hi => ?_) v K.cps.length _ (List.getElem_mem hi)
          obtain ⟨_, _, _, _, hf⟩ := HH.out.c.at_ i hi
          exact hf.sized
      obtain ⟨n, hn⟩ : ∃ n, n = (leftTo K.cps v K.cps.length).length := ⟨_, rfl⟩
      have HTO : Hid (tickOf K v = tickTo K v n) := by show _ = _; rw [hn]; rfl
      rw [← hn] at HI0 hle ⊢
      clear hn
      obtain ⟨wc, hwc⟩ : ∃ wc, wc = wr.setCell ⟨w.heap.size, 2, none⟩ (.slice a n c) := ⟨_, rfl⟩
      rw [← hwc] at HI0
      have ff := (HXO.out.later HW.out).frozen
      go_upto_region 13 with fail
      rw [← hwc]
      clear hwc ff yz y0 y1 y2 y3 HO HW
      go_loopw [8] (fun i wr => ∃ k : Nat, k ≤ n ∧ i = .int .i64 k ∧ TkI K a0 a2 c0 c2 a c w wr (tickTo K v k) n) (fun i _ => n - (intOf i).toNat)
      case atStart => exact ⟨0, Nat.zero_le _, rfl, HI0.out⟩
      case round =>
        obtain ⟨k, hk, rfl, hI⟩ := hrel
        have HI := hid hI
        clear hI
        obtain ⟨yz, y0, y1, y2, y3⟩ := HI.out.bk
        by_cases hlt : k < n
        · have HNX : Hid (tickTo K v (k + 1) = tickS K v (tickTo K v k) k) := rfl
          obtain ⟨M, hM⟩ : ∃ M, M = tickTo K v k := ⟨_, rfl⟩
          rw [← hM] at HI HNX
          clear hM
          have hml := HI.out.len
          subst hml
          have hm0 : (0 : Int) ≤ (k : Int) := by omega
          have hm3 : (k : Int) < (M.length : Int) := by omega
          go_wp2_with fail
          refine (l17LeastS ⟨K.now, K.svcs, M, K.bts⟩ a0 a a2 c0 c c2 wr (HI.out.v HH.out (by omega)) (by show M.length ≤ _; omega)).mono ?_
          rintro e w1 ⟨rfl, hb1⟩
          have HI1 := hid (HI.out.later hb1)
          have HBZ : Hid ((leastOf ⟨K.now, K.svcs, M, K.bts⟩).size ≤ maxLen) := least_sized (K := ⟨K.now, K.svcs, M, K.bts⟩) HSZD.out _ (Nat.le_refl _)
          have HNX2 : Hid (tickTo K v (k + 1) = if ((M.getD k Cp.none).state == 1) && !(leastOf ⟨K.now, K.svcs, M, K.bts⟩).toList.isEmpty then M.set k ⟨(M.getD k Cp.none).svc, (M.getD k Cp.none).num, v, (M.getD k Cp.none).image, 2, (M.getD k Cp.none).ending, leastOf ⟨K.now, K.svcs, M, K.bts⟩⟩ else M) := HNX.out
          obtain ⟨B, hB⟩ : ∃ B, B = leastOf ⟨K.now, K.svcs, M, K.bts⟩ := ⟨_, rfl⟩
          rw [← hB] at HBZ HNX2 ⊢
          clear hb1 hB HNX HI yz y0 y1 y2 y3
          obtain ⟨yz, y0, y1, y2, y3⟩ := HI1.out.bk
          obtain ⟨g, c', ev, hlo, hgl, hcell⟩ := owns_cells HI1.out.row (by omega)
          injection ev with ev1 ev2 ev3
          subst ev1
          subst ev3
          clear ev2
          obtain ⟨x, hx⟩ : ∃ x, x = M.getD k Cp.none := ⟨_, rfl⟩
          have cell := fun j (hj : j < 7) u (hu : (CpC x)[j]? = some u) => hcell (k * 7 + j) u ((flat_at Cp.none CpC 7 CpC_len M k j hlt hj).trans (by rw [← hx]; exact hu))
          have z4 := cell 4 (by omega) _ rfl
          have z6 := cell 6 (by omega) _ rfl
          have z2 := cell 2 (by omega) _ rfl
          have HXX := hid hx
          rw [← hx] at HNX2
          obtain ⟨mo, hob⟩ := owns_ob HI1.out.row
          have of := hob.frozen
          clear hcell cell hx hob
          by_cases hst : x.state = 1
          · by_cases hBe : B.toList = []
            · have HN : Hid (tickTo K v (k + 1) = M) := by show _ = _; rw [HNX2.out, hst, hBe]; rfl
              have hbe : B.toList.isEmpty = true := by rw [hBe]; rfl
              rw [hst] at z4
              clear HNX2 z6 z2 of
              go_wp2
              go_roundw
              case rel => exact ⟨k + 1, by omega, by go_num, by rw [HN.out]; exact HI1.out⟩
              case measure => simp [intOf]; omega
            · have hbe : B.toList.isEmpty = false := by rw [List.isEmpty_eq_false_iff]; exact hBe
              have HN : Hid (tickTo K v (k + 1) = M.set k ⟨x.svc, x.num, v, x.image, 2, x.ending, B⟩) := by show _ = _; rw [HNX2.out, hst, hbe]; rfl
              rw [hst] at z4
              have HF : Hid (∀ W, W = ((w1.setCell ⟨g, k * 7 + 4, none⟩ (.int .i64 2)).setCell ⟨g, k * 7 + 6, none⟩ (.string B)).setCell ⟨g, k * 7 + 2, none⟩ (.int .i64 v) → TkI K a0 a2 c0 c2 (some ⟨g, 0, none⟩) c w W (tickTo K v (k + 1)) M.length) := by
                intro W hW
                rw [hW, HN.out]
                have hxz : x.sized := by rw [HXX.out]; exact HI1.out.szd k hlt
                have t1 := HI1.out.set hlo k 4 hlt (by omega) (.int .i64 2) ⟨x.svc, x.num, x.ver, x.image, 2, x.ending, x.berth⟩ (by rw [← HXX.out]; rfl) hxz
                have g1 : (M.set k ⟨x.svc, x.num, x.ver, x.image, 2, x.ending, x.berth⟩).getD k Cp.none = ⟨x.svc, x.num, x.ver, x.image, 2, x.ending, x.berth⟩ := by simp [hlt]
                have t2 := t1.set hlo k 6 (by rw [List.length_set]; exact hlt) (by omega) (.string B) ⟨x.svc, x.num, x.ver, x.image, 2, x.ending, B⟩ (by rw [g1]; rfl) ⟨hxz.1, HBZ.out⟩
                rw [List.set_set] at t2
                have g2 : (M.set k ⟨x.svc, x.num, x.ver, x.image, 2, x.ending, B⟩).getD k Cp.none = ⟨x.svc, x.num, x.ver, x.image, 2, x.ending, B⟩ := by simp [hlt]
                have t3 := t2.set hlo k 2 (by rw [List.length_set]; exact hlt) (by omega) (.int .i64 v) ⟨x.svc, x.num, v, x.image, 2, x.ending, B⟩ (by rw [g2]; rfl) ⟨hxz.1, HBZ.out⟩
                rw [List.set_set] at t3
                exact t3
              have yne : w.heap.size ≠ g := by omega
              clear HNX2 HN
              go_wp2
              go_roundw
              case rel => exact ⟨k + 1, by omega, by go_num, HF.out _ rfl⟩
              case measure => simp [intOf]; omega
          · have hsb : (x.state == 1) = false := by simpa using hst
            have HN : Hid (tickTo K v (k + 1) = M) := by show _ = _; rw [HNX2.out, hsb]; rfl
            clear HNX2 z6 z2 of
            go_wp2
            go_roundw
            case rel => exact ⟨k + 1, by omega, by go_num, by rw [HN.out]; exact HI1.out⟩
            case measure => simp [intOf]; omega
        · obtain rfl : k = n := by omega
          have hth := RY.own_there HI.out.res
          have hrt : World.rangeAt (wr.setCells (w.heap.size + 1) 0 [.int .i64 K.now, .slice a0 K.svcs.length c0, .slice a k c, .slice a2 K.bts.length c2]) (w.heap.size + 1) 0 [.int .i64 K.now, .slice a0 K.svcs.length c0, .slice a k c, .slice a2 K.bts.length c2] := World.rangeAt_setCells_same _ _ _ _ hth
          have hlt2 : ∀ g, (Value.slice a k c).ownBlock = some g → g ≠ w.heap.size + 1 := fun g hg => by have := (World.ownsRow.lt HI.out.row g hg).1; omega
          have HF : Hid (World.ownsRow (wr.setCells (w.heap.size + 1) 0 [.int .i64 K.now, .slice a0 K.svcs.length c0, .slice a k c, .slice a2 K.bts.length c2]) (w.heap.size + 2) 81 7 (.slice a k c) k ((tickTo K v k).flatMap CpC) ∧ Below w.heap.size w (wr.setCells (w.heap.size + 1) 0 [.int .i64 K.now, .slice a0 K.svcs.length c0, .slice a k c, .slice a2 K.bts.length c2])) :=
            ⟨owns_scn (owns_scn (owns_scn (owns_scn HI.out.row hlt2 _ _) hlt2 _ _) hlt2 _ _) hlt2 _ _, puts_below 0 (by omega) [.int .i64 K.now, .slice a0 K.svcs.length c0, .slice a k c, .slice a2 K.bts.length c2] _ 0 HI.out.bel⟩
          have HLN : Hid ((tickOf K v).length = k) := by show _ = _; rw [HTO.out]; exact HI.out.len
          go_wp2_with (refine wpList_store_mid rfl 37 _ _ rfl (w.heap.size + 1) 0 #[.int .i64 K.now, .slice a0 K.svcs.length c0, .slice a k c, .slice a2 K.bts.length c2] rfl rfl hth (by kernel_rfl) (by simp [Value.oneCell']) ?_)
          simp only [Act.put]
          refine bodyPost_ret (v := .agg #[.int .i64 K.now, .slice a0 K.svcs.length c0, .slice a k c, .slice a2 K.bts.length c2]) (by simp [results, Tryz.results44, asAddr, run_loadVar_mid (P := Tryz.prog) _ _ _ 37 [.int .i64 K.now, .slice a0 K.svcs.length c0, .slice a k c, .slice a2 K.bts.length c2] _ hrt Tryz.underlying37 rfl (by kernel_rfl)]) rfl ?_
          refine ⟨⟨a, c, by rw [HLN.out], by rw [HLN.out, HTO.out]; exact HF.out.1, ?_⟩, HF.out.2⟩
          rw [HTO.out]
          exact HI.out.szd

end Go.Proofs.YtclagbakddkjcaaGreat
