/-
  Sheets: how a line is written: the specification. Texts put behind rows of bytes.
-/
import Derived.Lib.AppendStr
import Derived.Test.YteemfpocmmainaaDoorEWb
import Derived.Test.YteemfpocmmainaaDoorESd
import Derived.Test.YteemfpocmmainaaDoorEPp
import Derived.Test.YteemfpocmmainaaDoorLBx
namespace Go.Proofs.YteemfpocmmainaaDoor
open Go.RowKit Go.Deep

theorem strCells_by (s : ByteArray) : Lib.strCells s = Pl.byV s.data.toList := rfl
theorem by_str {w : World} {ops : Array Oper} {rest : List Oper} {o : Oper} {a : Act} {Q : Exit → Act → World → Prop} (hgd : o.guard = none) (sl x : Operand)
    (ho : o.op = .call { callee := .builtin .append, args := #[sl, x], argTypes := #[35, 9] }) (lo : Nat) (v : Value) (l : List UInt8) (hs : a.eval sl = v) (hown : By w lo v l) (s : ByteArray) (hx : a.eval x = .string s)
    (h63 : l.length + s.size ≤ 1099511627776) (hlo : lo ≤ w.heap.size)
    (h : ∀ v' w', By w' lo v' (l ++ s.data.toList) → w.grownBy w' v.ownBlock → wpList Tryd.prog ops Q rest (a.put o.dst v') w') : wpList Tryd.prog ops Q (o :: rest) a w := by
  obtain ⟨i0, hi, hz0, hz1, hz2⟩ := uinfo Tryd.info_byte
  refine Lib.wpList_append_own_string w hgd sl x 35 9 ho lo 5 i0 Tryd.under_bytes (by kernel_rfl) hi hz0 hz1 hz2 v l.length (Pl.byV l) hs hown s hx (by unfold maxLen; omega) (by omega) hlo fun v' w' q1 q2 _ => h v' w' ?_ q2
  unfold By
  rw [Pl.byV_app, List.length_append, Pl.len_data, ← strCells_by]
  exact q1
/-- A row of bytes lies in no box of another type. -/
theorem By.ne {W : World} {lo p : Nat} {T : TypeId} {v : Value} {l : List UInt8} {cs : List Value} (h : By W lo v l) (hb : WBox W p T cs) (hT : T ≠ 5) : v.ownBlock ≠ some p := fun e => by
  rcases h.2 with ⟨q, _⟩ | ⟨g, cap, cur, q1, q2, q3, _⟩
  · rw [q] at e; cases e
  · rw [q1] at e
    injection e with e
    have e' : g = p := e
    subst e'
    obtain ⟨cs', h1, _⟩ := hb.own
    rw [q3] at h1
    injection h1 with h1
    injection h1 with _ h2
    exact hT h2.symm

set_option maxHeartbeats 4000000 in
theorem l40LineS (x : Pl.Ln) (a1 : Option Addr) (c1 : Nat) (w : World) (hA : Raw w shTxs [.row x.ws.length (txD x.ws)] [.slice a1 x.ws.length c1]) (hw : Pl.wln x ≤ 1048576) :
    Calls Tryd.prog 11 #[.agg #[.string x.key, .slice a1 x.ws.length c1]] w fun e w' => e = .returned (.string ⟨(Pl.lineT x).toArray⟩) ∧ Below w.heap.size w w' := by
  have HA := uh hA
  have HWT := uh hw
  obtain ⟨wa, hwa⟩ : ∃ wa, wa = w.alloc (.cells #[.string x.key, .slice a1 x.ws.length c1] 42) := ⟨_, rfl⟩
  have HBA : Hid (Below w.heap.size w wa) := by show Below _ _ _; rw [hwa]; exact blw_alloc (Below.refl _ _) _
  have HX : Hid (LBox wa w.heap.size [.string x.key, .slice a1 x.ws.length c1]) := by show LBox _ _ _; rw [hwa]; exact LBox.new w #[.string x.key, .slice a1 x.ws.length c1] _ _ rfl
  clear hA hw
  go_enter Tryd.func11, Tryd.ntmps11
  go_upto_region 1 with fail
  rw [← hwa]
  clear hwa
  have x0 := HX.out.get 0 _ rfl
  have xl := HX.out.lt
  go_wp2
  go_loopw [3, 4] (fun vo vi wr => ∃ (k : Nat) (T : ByteArray), k ≤ x.ws.length ∧ vi = .int .i64 k ∧ vo = .string T ∧ T.data.toList = x.key.data.toList ++ Pl.lineW (x.ws.take k) ∧ Below wa.heap.size wa wr) (fun _ vi _ => x.ws.length - (intOf vi).toNat)
  case atStart => exact ⟨0, x.key, Nat.zero_le _, rfl, rfl, by simp [Pl.lineW], Below.refl _ _⟩
  case round =>
    obtain ⟨k, T, hk, rfl, rfl, hT, hW⟩ := hrel
    have HT := uh hT
    have HW := uh hW
    have x1 := (HX.out.later hW).get 1 _ rfl
    have xl1 := (HX.out.later hW).lt
    clear hT hW x0 xl
    by_cases hlt : k < x.ws.length
    rotate_left
    · obtain rfl : k = x.ws.length := by omega
      have HE : Hid (T = ⟨(Pl.lineT x).toArray⟩) := by
        show _ = _
        rw [Pl.lineT, ← List.take_length (l := x.ws), ← HT.out, Pl.back]
      go_wp2
      go_ret
      exact ⟨Pl.ret_str HE.out, blw_trans HBA.out HW.out⟩
    rcases txs_open (HA.out.later (blw_trans HBA.out HW.out)) with ⟨e0, _⟩ | ⟨p, o, c, hv, hp, hml, hc⟩
    · omega
    injection hv with g1 _ g3
    subst g1; subst g3
    unfold maxLen at hml
    have y1 := hc k hlt
    have hyz : (x.ws.getD k Pl.txNo).size ≤ 1048576 := by
      have e : x.ws.getD k Pl.txNo = x.ws[k] := by simp [hlt]
      have := Pl.sum_mem_le (fun w : ByteArray => w.size + 1) x.ws _ (List.getElem_mem hlt)
      have := HWT.out
      unfold Pl.wln Pl.wtx at this
      rw [e]; omega
    have HTS : Hid (T.size ≤ 4194304) := by
      show _ ≤ _
      rw [← Pl.len_data, HT.out, List.length_append, Pl.len_data]
      have h1 := Pl.lineW_len (x.ws.take k)
      have h2 := Pl.sum_take_le (fun w : ByteArray => w.size + 1) x.ws k
      have h3 := HWT.out
      unfold Pl.wtx at h1
      unfold Pl.wln Pl.wtx at h3
      omega
    have HN : Hid (Pl.lineW (x.ws.take (k + 1)) = Pl.lineW (x.ws.take k) ++ (32 :: Pl.wordL (x.ws.getD k Pl.txNo).data.toList)) := by
      show _ = _
      rw [Pl.take_snocD Pl.txNo x.ws k hlt]; simp [Pl.lineW]
    obtain ⟨y, hy⟩ : ∃ y, y = x.ws.getD k Pl.txNo := ⟨_, rfl⟩
    rw [← hy] at y1 hyz HN
    have hk0 : (0 : Int) ≤ (k : Int) := by omega
    have hkn : (k : Int) < (x.ws.length : Int) := by omega
    have HWL := uh (Pl.wordL_len y.data.toList)
    have hl1 : ¬ (9223372036854775807 < T.size + 1) := by have := HTS.out; omega
    have hl2 : ¬ (9223372036854775807 < T.size + 1 + (Pl.wordOut y).size) := by
      have e : (Pl.wordOut y).size = (Pl.wordL y.data.toList).length := by simp [Pl.wordOut, ByteArray.size]
      have := HTS.out; have := HWL.out; rw [Pl.len_data] at this; omega
    clear hc hy
    go_wp2_with (go_at_call 23; refine (sheetWordS _ _ hyz).mono ?_; rintro e w1 ⟨rfl, hb1⟩)
    go_roundw
    case rel => exact ⟨k + 1, _, by omega, by go_num, rfl, by rw [HN.out]; simp [ByteArray.data_append, HT.out, Pl.wordOut], blw_trans HW.out hb1⟩
    case measure => simp [intOf]; omega

end Go.Proofs.YteemfpocmmainaaDoor
