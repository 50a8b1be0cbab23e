import Derived.Test.YtmgibmmpopoboaaEEb
import Derived.Test.YtmgibmmpopoboaaEEc
import Derived.Test.YtmgibmmpopoboaaEEd
import Derived.Test.YtmgibmmpopoboaaEEe
import Derived.Test.YtmgibmmpopoboaaEEf
import Derived.Test.YtmgibmmpopoboaaEEg
import Derived.Test.YtmgibmmpopoboaaEEh
import Derived.Test.YtmgibmmpopoboaaEEk
import Derived.Test.YtmgibmmpopoboaaFnFillProof
namespace Go.Proofs.Ytmgibmmpopoboaa
open Go.RowKit Go.Deep
theorem FT:iV Try.prog 43:=Cz fun j hj=>by
 have:j=0∨j=1∨j=2∨j=3∨j=4∨j=5∨j=6∨j=7∨j=8:=by omega
 rcases this with rfl|rfl|rfl|rfl|rfl|rfl|rfl|rfl|rfl
 ·exact CJ
 ·exact CH
 ·exact Co
 ·exact C9
 ·exact CO
 ·exact CM
 ·exact C1
 ·exact CY
 ·exact Da
theorem fill_holds:Rows.FnSheetFillSaid:=sB FT
end Go.Proofs.Ytmgibmmpopoboaa
