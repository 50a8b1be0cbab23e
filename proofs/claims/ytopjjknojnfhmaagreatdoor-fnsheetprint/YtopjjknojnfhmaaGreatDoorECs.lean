import Derived.Test.YtopjjknojnfhmaaGreatDoorUB
namespace Go.Proofs.YtopjjknojnfhmaaGreatDoor
open Go.RowKit Go.Deep
abbrev iM:List Sh:=[.row 9 [.s],.b]
theorem Cv {w:World} {a0:Int} {cs:List Value} (h:Raw w [.i] [.i a0] cs):cs=[.int .i64 a0]:=by
 obtain⟨x0,rfl,h1⟩:=h.c_i;obtain rfl:=h1.c_n;exact rfl
theorem zj {w:World} {a0:ByteArray} {cs:List Value} (h:Raw w [.s] [.s a0] cs):cs=[.string a0]:=by
 obtain⟨x0,rfl,h1⟩:=h.c_s;obtain rfl:=h1.c_n;exact rfl
theorem uZ {w:World} {tt:Bool} {F:List Nat} {n0:Nat} {e0:List Dt} {a1:Bool} {cs:List Value} (h:Rep w tt iM F [.row n0 e0,.b a1] cs):∃ F0 v0,F=F0++[]∧cs=[v0,.bool a1]∧Rep w tt [.row 9 [.s]] F0 [.row n0 e0] [v0]:=by
 obtain⟨F0,G0,v0,x0,rfl,rfl,t0,h1⟩:=h.c_r;obtain⟨x1,rfl,h2⟩:=h1.c_b;obtain⟨rfl,rfl⟩:=h2.c_n;exact⟨F0,v0,rfl,rfl,t0⟩
end Go.Proofs.YtopjjknojnfhmaaGreatDoor
