import Derived.Test.YtgiglpnaekbegaaGreatDoorUL
namespace Go.Proofs.YtgiglpnaekbegaaGreatDoor
set_option maxRecDepth 8000
set_option maxHeartbeats 40000000
open Go.RowKit Go.Deep
theorem qA (ex0:ByteArray) (ex1:ByteArray) (A:ByteArray) (w:World) (DL:ex0.size≤maxLen) (fc:ex1.size≤maxLen)
  (hS:ex0.size≤1048576→ex1.size≤1048576→∀ W:World,Calls Tryz.prog 4 #[.string ex0,.string ex1] W (fun e w'=>e=.returned (.string A)∧Bel W w'))
  (hI:ex0.size≤1048576→ex1.size≤1048576→∀ W:World,Bel w W→Calls Tryz.prog 5 #[.string ex0,.string ex1] W (fun e w'=>e=.returned (.string A)∧Bel W w')):
  Calls Tryz.prog 3 #[.string ex0,.string ex1] w fun e w'=>e=.returned (.bool true)∧Bel w w':=by
 have hy0:ex0.size≤9223372036854775807:=DL;clear DL;have y5:ex1.size≤9223372036854775807:=fc;clear fc;have Ep:=uh hS;have Vm:=uh hI;clear hS hI;have HB:Hid (Bel w w):=zR;have O0:=uh (Nat.le_refl w.heap.size);go_enter Tryz.func3,Tryz.ntmps3
 by_cases ht0:1048576<(ex0.size:Int)
 ·go_wp2;go_ret;exact⟨rfl,HB.out⟩
 have Mv:Hid (ex0.size≤1048576):=by show _≤_;omega
 by_cases ht1:1048576<(ex1.size:Int)
 ·go_wp2;go_ret;exact⟨rfl,HB.out⟩
 have LP:Hid (ex1.size≤1048576):=by show _≤_;omega
 replace Ep:=uh (Ep.out Mv.out LP.out)
 replace Vm:=uh (Vm.out Mv.out LP.out)
 have dr:(A.toList !=A.toList)=false:=by simp
 go_wp2_with fail
 refine(Ep.out _).mono ?_;rintro e wa ⟨rfl,wN⟩;replace HB:=uh (ae HB.out wN)
 clear wN;go_wp2_with fail
 refine(Vm.out _ HB.out).mono ?_;rintro e wb ⟨rfl,dG⟩;replace HB:=uh (ae HB.out dG)
 clear dG;go_wp2;go_ret;exact⟨rfl,HB.out⟩
end Go.Proofs.YtgiglpnaekbegaaGreatDoor
