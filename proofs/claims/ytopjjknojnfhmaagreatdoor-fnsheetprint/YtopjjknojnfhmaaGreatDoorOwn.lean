import Derived.Test.YtopjjknojnfhmaaGreatDoorProg
import Derived.RowKit
import Derived.WalkKit
import Derived.Deep.OwnRows
import Derived.Deep.RegionWith
import Derived.BigQuiet
import Derived.Deep.QuietTactic
import Derived.Test.YtopjjknojnfhmaaGreatDoorBl
namespace Go.Proofs.YtopjjknojnfhmaaGreatDoor
open Go.RowKit Go.Deep
theorem ae {a w:World} (h:Bel a w) (o:Obj):Bel a (w.alloc o):=h.alloc h.size o
theorem ah {a w w':World} (h:Bel a w) (k:Bel w w'):Bel a w':=h.trans (k.mono h.size)
theorem eL {a w:World} (h:Bel a w) (n:Nat):Bel a (w.drewN n):=⟨h.os,h.tape,h.output,h.size,h.block⟩
def aV (w:World) (B:Nat) (t:TypeId) (m:Nat):Prop:=∃ cs,w.heap[B]? =some (.cells cs t (0,0))∧cs.size=m
theorem aV.lt {w:World} {B:Nat} {t:TypeId} {m:Nat} (h:aV w B t m):B<w.heap.size:=by
 obtain⟨cs,h1,_⟩:=h;by_cases hb:B<w.heap.size
 ·exact hb
 ·rw[Array.getElem?_eq_none (by omega)]at h1;cases h1
theorem aV.cell {w:World} {B:Nat} {t:TypeId} {m:Nat} (h:aV w B t m) (o:Nat) (ho:o<m):∃ v,w.cell? ⟨B,o,none⟩=some v:=by
 obtain⟨cs,h1,h2⟩:=h;refine⟨cs[o]'(by omega), ?_⟩;simp[World.cell?,h1,Array.getElem?_eq_getElem (show o<cs.size by omega)]
theorem aV.frozen {w:World} {B:Nat} {t:TypeId} {m:Nat} (h:aV w B t m) (o:Nat):w.frozen? ⟨B,o,none⟩=false:=by
 obtain⟨cs,h1,h2⟩:=h;simp[World.frozen?,h1]
theorem aV.later {w w':World} {B:Nat} {t:TypeId} {m:Nat} (h:aV w B t m) (hb:Bel w w'):aV w' B t m:=by
 have hl:=h.lt;obtain⟨cs,h1,h2⟩:=h;exact⟨cs,by rw[hb.block B hl];exact h1,h2⟩
theorem aV.setCell {w:World} {B:Nat} {t:TypeId} {m:Nat} (h:aV w B t m) (o:Nat) (v:Value):aV (w.setCell ⟨B,o,none⟩ v) B t m:=by
 obtain⟨cs,h1,h2⟩:=h;refine⟨cs.setIfInBounds o v, ?_,by simpa using h2⟩;simp[World.setCell,Array.getElem?_modify,h1]
theorem aV.alloc (w:World) (cs:Array Value) (t:TypeId) (m:Nat) (h:cs.size=m):aV (w.alloc (.cells cs t)) w.heap.size t m:=⟨cs,by show (w.heap.push _)[w.heap.size]? =_;simp,h⟩
theorem ni (w:World) (B o:Nat) (v:Value) (b' o':Nat) (h:b'≠B∨o'≠o):(w.setCell ⟨B,o,none⟩ v).cell? ⟨b',o',none⟩=w.cell? ⟨b',o',none⟩:=by
 by_cases hb:b'=B
 ·subst hb;have ho:o≠o':=fun e=>by rcases h with h|h;exact h rfl;exact h e.symm
  simp only[World.cell?,World.setCell,Array.getElem?_modify,if_pos];cases w.heap[b']? with
  |none=>rfl
  |some x=>cases x<;>simp[ho]
 ·simp only[World.cell?,World.setCell,Array.getElem?_modify];rw[if_neg (fun e=>hb e.symm)]
theorem uw {w:World} {B:Nat} {t:TypeId} {m:Nat} (h:aV w B t m) (o:Nat) (ho:o<m) (v:Value):(w.setCell ⟨B,o,none⟩ v).cell? ⟨B,o,none⟩=some v:=by
 obtain⟨cs,h1,h2⟩:=h;simp[World.cell?,World.setCell,Array.getElem?_modify,h1,h2,ho]
theorem aV.vD {w:World} {b B:Nat} {t:TypeId} {m:Nat} (h:aV w b t m) (du:b≠B) (o:Nat) (v:Value):aV (w.setCell ⟨B,o,none⟩ v) b t m:=by
 obtain⟨cs,h1,h2⟩:=h;refine⟨cs, ?_,h2⟩;rw[Below.heap_setCell w ⟨B,o,none⟩ v b du];exact h1
end Go.Proofs.YtopjjknojnfhmaaGreatDoor
