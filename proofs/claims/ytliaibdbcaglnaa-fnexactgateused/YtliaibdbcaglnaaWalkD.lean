/-
  Walks over lists of texts: what is read.
-/
import Derived.Test.YtliaibdbcaglnaaRows
import Derived.Test.YtliaibdbcaglnaaPlain
import Derived.WalkKit
import Derived.WalkSpells
import Derived.WalkLawsBesides
import Derived.BigQuiet
import Derived.Deep.QuietTactic
namespace Go.Proofs.Ytliaibdbcaglnaa
open Go.RowKit

end Go.Proofs.Ytliaibdbcaglnaa
