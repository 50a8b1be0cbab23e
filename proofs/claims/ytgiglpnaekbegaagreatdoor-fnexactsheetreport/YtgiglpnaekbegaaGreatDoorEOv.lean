import Derived.Test.YtgiglpnaekbegaaGreatDoorEOp
namespace Go.Proofs.YtgiglpnaekbegaaGreatDoor
set_option maxRecDepth 8000
set_option maxHeartbeats 40000000
open Go.RowKit Go.Deep
end Go.Proofs.YtgiglpnaekbegaaGreatDoor
