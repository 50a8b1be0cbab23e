import Derived.Test.YtgiglpnaekbegaaGreatDoorProg
import Derived.RowKit
import Derived.WalkKit
import Derived.Deep.OwnRows
import Derived.Deep.RegionWith
import Derived.BigQuiet
import Derived.Deep.QuietTactic
import Derived.Test.YtgiglpnaekbegaaGreatDoorBl
namespace Go.Proofs.YtgiglpnaekbegaaGreatDoor
set_option maxRecDepth 8000
set_option maxHeartbeats 40000000
open Go.RowKit Go.Deep
theorem af {a w:World} (h:Bel a w) (o:Obj):Bel a (w.alloc o):=h.alloc h.size o
theorem ae {a w w':World} (h:Bel a w) (k:Bel w w'):Bel a w':=h.trans (k.mono h.size)
theorem gy {a w:World} (h:Bel a w) (n:Nat):Bel a (w.drewN n):=⟨h.os,h.tape,h.output,h.size,h.block⟩
def aN (w:World) (B:Nat) (t:TypeId) (m:Nat):Prop:=∃ cs,w.heap[B]? =some (.cells cs t (0,0))∧cs.size=m
theorem aN.lt {w:World} {B:Nat} {t:TypeId} {m:Nat} (h:aN w B t m):B<w.heap.size:=by
 obtain⟨cs,h1,_⟩:=h;by_cases hb:B<w.heap.size
 ·exact hb
 ·rw[XW (by omega)]at h1;cases h1
theorem aN.cell {w:World} {B:Nat} {t:TypeId} {m:Nat} (h:aN w B t m) (o:Nat) (ho:o<m):∃ v,w.cell? ⟨B,o,none⟩=some v:=by
 obtain⟨cs,h1,h2⟩:=h;refine⟨cs[o]'(by omega), ?_⟩;simp[World.cell?,h1,Array.getElem?_eq_getElem (show o<cs.size by omega)]
theorem aN.frozen {w:World} {B:Nat} {t:TypeId} {m:Nat} (h:aN w B t m) (o:Nat):w.frozen? ⟨B,o,none⟩=false:=by
 obtain⟨cs,h1,h2⟩:=h;simp[World.frozen?,h1]
theorem aN.later {w w':World} {B:Nat} {t:TypeId} {m:Nat} (h:aN w B t m) (hb:Bel w w'):aN w' B t m:=by
 have hl:=h.lt;obtain⟨cs,h1,h2⟩:=h;exact⟨cs,by rw[hb.block B hl];exact h1,h2⟩
theorem aN.setCell {w:World} {B:Nat} {t:TypeId} {m:Nat} (h:aN w B t m) (o:Nat) (v:Value):aN (w.setCell ⟨B,o,none⟩ v) B t m:=by
 obtain⟨cs,h1,h2⟩:=h;refine⟨cs.setIfInBounds o v, ?_,by simpa using h2⟩;simp[World.setCell,Array.getElem?_modify,h1]
theorem aN.alloc (w:World) (cs:Array Value) (t:TypeId) (m:Nat) (h:cs.size=m):aN (w.alloc (.cells cs t)) w.heap.size t m:=⟨cs,by show (w.heap.push _)[w.heap.size]? =_;simp,h⟩
theorem QC (w:World) (B o:Nat) (v:Value) (b' o':Nat) (h:b'≠B∨o'≠o):(w.setCell ⟨B,o,none⟩ v).cell? ⟨b',o',none⟩=w.cell? ⟨b',o',none⟩:=by
 by_cases hb:b'=B
 ·subst hb;have ho:o≠o':=fun e=>by rcases h with h|h;exact h rfl;exact h e.symm
  simp only[World.cell?,World.setCell,YM,if_pos];cases w.heap[b']? with
  |none=>rfl
  |some x=>cases x<;>simp[ho]
 ·simp only[World.cell?,World.setCell,YM];rw[if_neg (fun e=>hb e.symm)]
theorem QN {w:World} {B:Nat} {t:TypeId} {m:Nat} (h:aN w B t m) (o:Nat) (ho:o<m) (v:Value):(w.setCell ⟨B,o,none⟩ v).cell? ⟨B,o,none⟩=some v:=by
 obtain⟨cs,h1,h2⟩:=h;simp[World.cell?,World.setCell,Array.getElem?_modify,h1,h2,ho]
theorem aN.xT {w:World} {b B:Nat} {t:TypeId} {m:Nat} (h:aN w b t m) (dr:b≠B) (o:Nat) (v:Value):aN (w.setCell ⟨B,o,none⟩ v) b t m:=by
 obtain⟨cs,h1,h2⟩:=h;refine⟨cs, ?_,h2⟩;rw[Below.heap_setCell w ⟨B,o,none⟩ v b dr];exact h1
end Go.Proofs.YtgiglpnaekbegaaGreatDoor
