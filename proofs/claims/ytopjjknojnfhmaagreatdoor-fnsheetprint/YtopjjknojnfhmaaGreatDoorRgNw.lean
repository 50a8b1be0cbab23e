import Derived.Test.YtopjjknojnfhmaaGreatDoorRgSt
namespace Go.Proofs.YtopjjknojnfhmaaGreatDoor
open Go.RowKit Go.Deep
namespace RY
end RY
end Go.Proofs.YtopjjknojnfhmaaGreatDoor
