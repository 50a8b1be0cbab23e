import Derived.BigQuiet
import Derived.Deep.RegionWith
import Derived.Test.YtbiokpmdghmgcaaGreatWalkAK
namespace Go.Proofs.YtbiokpmdghmgcaaGreat
open Go.RowKit Go.Deep
end Go.Proofs.YtbiokpmdghmgcaaGreat
