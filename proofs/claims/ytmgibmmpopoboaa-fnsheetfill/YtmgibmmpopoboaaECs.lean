import Derived.Test.YtmgibmmpopoboaaUB
namespace Go.Proofs.Ytmgibmmpopoboaa
open Go.RowKit Go.Deep
theorem yT {w:World} {a0:Int} {cs:List Value} (h:Raw w [.i] [.i a0] cs):cs=[.int .i64 a0]:=by
 obtain⟨x0,rfl,h1⟩:=h.c_i;obtain rfl:=h1.c_n;exact rfl
theorem vA {w:World} {a0:ByteArray} {cs:List Value} (h:Raw w [.s] [.s a0] cs):cs=[.string a0]:=by
 obtain⟨x0,rfl,h1⟩:=h.c_s;obtain rfl:=h1.c_n;exact rfl
end Go.Proofs.Ytmgibmmpopoboaa
