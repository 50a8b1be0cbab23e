import Derived.Test.YtgiglpnaekbegaaGreatDoorUB
namespace Go.Proofs.YtgiglpnaekbegaaGreatDoor
set_option maxRecDepth 8000
set_option maxHeartbeats 40000000
open Go.RowKit Go.Deep
abbrev fK:List Sh:=[.row 9 [.s],.b]
theorem L8 {w:World} {a0:Int} {cs:List Value} (h:Raw w [.i] [.i a0] cs):cs=[.int .i64 a0]:=by
 obtain⟨x0,rfl,h1⟩:=h.c_i;obtain rfl:=h1.c_n;exact rfl
theorem EX {w:World} {a0:ByteArray} {cs:List Value} (h:Raw w [.s] [.s a0] cs):cs=[.string a0]:=by
 obtain⟨x0,rfl,h1⟩:=h.c_s;obtain rfl:=h1.c_n;exact rfl
theorem wS {w:World} {tt:Bool} {F:List Nat} {n0:Nat} {e0:List Dt} {a1:Bool} {cs:List Value} (h:Rep w tt fK F [.row n0 e0,.b a1] cs):∃ F0 v0,F=F0++[]∧cs=[v0,.bool a1]∧Rep w tt [.row 9 [.s]] F0 [.row n0 e0] [v0]:=by
 obtain⟨F0,G0,v0,x0,rfl,rfl,t0,h1⟩:=h.c_r;obtain⟨x1,rfl,h2⟩:=h1.c_b;obtain⟨rfl,rfl⟩:=h2.c_n;exact⟨F0,v0,rfl,rfl,t0⟩
theorem pe {w:World} {n0:Nat} {e0:List Dt} {a1:Bool} {cs:List Value} (h:Raw w fK [.row n0 e0,.b a1] cs):∃ v0,cs=[v0,.bool a1]∧Raw w [.row 9 [.s]] [.row n0 e0] [v0]:=by
 obtain⟨v0,x0,rfl,t0,h1⟩:=h.c_r;obtain⟨x1,rfl,h2⟩:=h1.c_b;obtain rfl:=h2.c_n;exact⟨v0,rfl,t0⟩
end Go.Proofs.YtgiglpnaekbegaaGreatDoor
