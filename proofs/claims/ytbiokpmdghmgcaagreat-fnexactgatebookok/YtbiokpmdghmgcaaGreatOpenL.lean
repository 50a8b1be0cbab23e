import Derived.Test.YtbiokpmdghmgcaaGreatMemL
import Derived.Test.YtbiokpmdghmgcaaGreatOpenM
import Derived.Test.YtbiokpmdghmgcaaGreatOpenT
namespace Go.Proofs.YtbiokpmdghmgcaaGreat
open Go.ChangeShapes Go.WideShapes Go.ChangeAt Go.RowKit
theorem J8:ownKnob Tryz.prog.godebug=none:=by kernel_rfl
theorem sg:laidOutB Tryz.prog=true:=by kernel_rfl
theorem zQ:Tryz.prog.cellsOf 26=3:=by kernel_rfl
theorem wQ:Tryz.prog.cellsOf 22=1:=by kernel_rfl
theorem wI:Tryz.prog.cellsOf 23=1:=by kernel_rfl
theorem xG:Tryz.prog.cellsOf 24=1:=by kernel_rfl
theorem yy {α:Type} {l:List α} (h:l.length=3):∃ c0 c1 c2,l=[c0,c1,c2]:=by
 match l,h with
 |[c0,c1,c2],_=>exact⟨c0,c1,c2,rfl⟩
section
variable {H:Type} {enc:TypeId×Value→H} {W:World} {base:Nat} {sp:Nat→Bool} {held:Bool}
theorem yo {fuel:Nat} {cs:List Value} {x:DataW H×List MemPlace} (h:DataW.trod enc Tryz.prog W base sp held fuel 26 cs=some x):
  ∃ (L:Lw) (v0 v1 v2:Value),cs=[v0,v1,v2]∧tw W v0 v1 v2 L:=by
 obtain⟨xs,n,_,_,hlen,lW,av⟩:=DataW.trod_struct Tryz.underlying26 h;rw[zQ]at hlen;obtain⟨c0,c1,c2,rfl⟩:=yy hlen;obtain⟨y0,y1,y2,rfl⟩:=yy (l:=xs) (by simpa using lW);have a0:=av 0 _ rfl;have a1:=av 1 _ rfl;have a2:=av 2 _ rfl;simp[wQ,wI,xG]at a0 a1 a2;obtain⟨ss,h0⟩:=rL a0;obtain⟨ms,h1⟩:=tO a1;obtain⟨ts,h2⟩:=ur a2;exact⟨⟨ss,ms,ts⟩,c0,c1,c2,rfl,h0,h1,h2⟩
end
end Go.Proofs.YtbiokpmdghmgcaaGreat
