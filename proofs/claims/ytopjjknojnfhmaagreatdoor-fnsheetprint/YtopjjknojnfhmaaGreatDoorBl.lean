import Derived.Below
namespace Go.Proofs.YtopjjknojnfhmaaGreatDoor
open Go.RowKit
abbrev Bel (a w:World):Prop:=Below a.heap.size a w
theorem zR {B:Nat} {a:World}:Below B a a:=Below.refl _ _
theorem zN {n:Nat}:0≤n:=Nat.zero_le _
theorem zE {n:Nat}:n≤n:=Nat.le_refl _
theorem zL {a b c:Nat} (h:a<b) (k:b≤c):a<c:=Nat.lt_of_lt_of_le h k
theorem hid {p:Prop} (h:p):Hid p:=h
end Go.Proofs.YtopjjknojnfhmaaGreatDoor
