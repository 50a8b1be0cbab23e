/-
  What GateCheck says.
-/
import Derived.Test.YtfbehiagmanflaaGreatDoorWalkCB
namespace Go.Proofs.YtfbehiagmanflaaGreatDoor
open Go.RowKit Go.Deep

def chCode (ss : List Shp) (o : Ob) : Nat := if (shapesOk ss && hasKind ss o.kind) = true then obCode (ss.getD (kindAt ss o.kind) Shp.none).fields o else 1
def chPlace (ss : List Shp) (o : Ob) : Nat := if (shapesOk ss && hasKind ss o.kind) = true then (if obCode (ss.getD (kindAt ss o.kind) Shp.none).fields o = 0 then 0 else obPlace (ss.getD (kindAt ss o.kind) Shp.none).fields o) else 0

end Go.Proofs.YtfbehiagmanflaaGreatDoor
