import Derived.Test.YtbiokpmdghmgcaaGreatMemL
import Derived.Test.YtbiokpmdghmgcaaGreatOpenM
import Derived.Test.YtbiokpmdghmgcaaGreatOpenT
namespace Go.Proofs.YtbiokpmdghmgcaaGreat
open Go.ChangeShapes Go.WideShapes Go.ChangeAt Go.RowKit
theorem LC:ownKnob Tryz.prog.godebug=none:=by kernel_rfl
theorem l9:laidOutB Tryz.prog=true:=by kernel_rfl
theorem Bd:Tryz.prog.cellsOf 26=3:=by kernel_rfl
theorem yh:Tryz.prog.cellsOf 22=1:=by kernel_rfl
theorem xB:Tryz.prog.cellsOf 23=1:=by kernel_rfl
theorem xN:Tryz.prog.cellsOf 24=1:=by kernel_rfl
theorem A7 {α:Type} {l:List α} (h:l.length=3):∃ c0 c1 c2,l=[c0,c1,c2]:=by
 match l,h with
 |[c0,c1,c2],_=>exact⟨c0,c1,c2,rfl⟩
section
variable {H:Type} {enc:TypeId×Value→H} {W:World} {base:Nat} {sp:Nat→Bool} {held:Bool}
theorem zL {fuel:Nat} {cs:List Value} {x:DataW H×List MemPlace} (h:DataW.trod enc Tryz.prog W base sp held fuel 26 cs=some x):
  ∃ (L:Lw) (v0 v1 v2:Value),cs=[v0,v1,v2]∧uu3 W v0 v1 v2 L:=by
 obtain⟨xs,n,_,_,hlen,lK,aw⟩:=DataW.trod_struct Tryz.underlying26 h;rw[Bd]at hlen;obtain⟨c0,c1,c2,rfl⟩:=A7 hlen;obtain⟨y0,y1,y2,rfl⟩:=A7 (l:=xs) (by simpa using lK);have a0:=aw 0 _ rfl;have a1:=aw 1 _ rfl;have a2:=aw 2 _ rfl;simp[yh,xB,xN]at a0 a1 a2;obtain⟨ss,h0⟩:=sw a0;obtain⟨ms,h1⟩:=tJ a1;obtain⟨ts,h2⟩:=t9 a2;exact⟨⟨ss,ms,ts⟩,c0,c1,c2,rfl,h0,h1,h2⟩
end
end Go.Proofs.YtbiokpmdghmgcaaGreat
