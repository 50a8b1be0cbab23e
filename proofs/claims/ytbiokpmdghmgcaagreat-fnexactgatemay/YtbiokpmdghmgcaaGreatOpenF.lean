import Derived.Test.YtbiokpmdghmgcaaGreatOpenS
import Derived.Test.YtbiokpmdghmgcaaGreatWalkAF
namespace Go.Proofs.YtbiokpmdghmgcaaGreat
open Go.ChangeShapes Go.WideShapes Go.ChangeAt Go.RowKit
theorem DR:Tryz.prog.cellsOf 96=7:=by kernel_rfl
theorem Em {α:Type} {l:List α} (h:l.length=7):∃ c0 c1 c2 c3 c4 c5 c6,l=[c0,c1,c2,c3,c4,c5,c6]:=by
 match l,h with
 |[c0,c1,c2,c3,c4,c5,c6],_=>exact⟨c0,c1,c2,c3,c4,c5,c6,rfl⟩
section
variable {H:Type} {enc:TypeId×Value→H} {W:World} {base:Nat} {sp:Nat→Bool} {held:Bool}
theorem nb {fuel:Nat} {cs:List Value} {x:DataW H×List MemPlace} (h:DataW.trod enc Tryz.prog W base sp held fuel 96 cs=some x):
  ∃ (o:Ob) (v1 v2:Value),cs=[.string o.kind,.string o.name,.string o.team,v1,.bool o.ending,v2,.int .i64 o.version]∧o.sized∧bU W v1 o.values∧bU W v2 o.holds:=by
 obtain⟨xs,n,_,_,hlen,lK,aw⟩:=DataW.trod_struct Tryz.underlying96 h;rw[DR]at hlen;obtain⟨c0,c1,c2,c3,c4,c5,c6,rfl⟩:=Em hlen;obtain⟨y0,y1,y2,y3,y4,y5,y6,rfl⟩:=Em (l:=xs) (by simpa using lK);have a0:=aw 0 _ rfl;have a1:=aw 1 _ rfl;have a2:=aw 2 _ rfl;have a3:=aw 3 _ rfl;have a4:=aw 4 _ rfl;have a5:=aw 5 _ rfl;have a6:=aw 6 _ rfl;simp[gD,ko,zI,vZ]at a0 a1 a2 a3 a4 a5 a6;obtain⟨k,e0,_,s0⟩:=DataW.trod_string Tryz.underlying9 a0;obtain⟨nm,e1,_,s1⟩:=DataW.trod_string Tryz.underlying9 a1;obtain⟨tm,e2,_,s2⟩:=DataW.trod_string Tryz.underlying9 a2;obtain⟨vs,t3⟩:=lE a3;obtain⟨en,e4,_⟩:=DataW.trod_bool Tryz.underlying4 a4;obtain⟨hs,t5⟩:=lE a5;obtain⟨ver,e6,_,_⟩:=DataW.trod_int Tryz.underlying3 a6;simp only[List.cons.injEq,and_true]at e0 e1 e2 e4 e6;subst e0 e1 e2 e4 e6;exact⟨⟨k,nm,tm,vs,en,hs,ver⟩,c3,c5,rfl,⟨s0,s1,s2⟩,t3,t5⟩
end
end Go.Proofs.YtbiokpmdghmgcaaGreat
