import Derived.WalkKit
import Derived.Test.YtopjjknojnfhmaaGreatDoorBl
namespace Go.Proofs.YtopjjknojnfhmaaGreatDoor.Pl
def bV (c:UInt8):Bool:=(decide (97≤c.toNat)&&decide (c.toNat≤122))||(decide (48≤c.toNat)&&decide (c.toNat≤57))||decide (c.toNat=45)
def nameBytes (s:ByteArray):Bool:=s.data.toList.all bV
def digit (c:UInt8):Bool:=decide (48≤c.toNat)&&decide (c.toNat≤57)
def lead (s:ByteArray):Bool:=decide (1<s.size)&&(s.data.toList.headD 0==48)
def dF (s:ByteArray):Bool:=decide (1≤s.size)&&decide (s.size≤7)&& !lead s&&s.data.toList.all digit
def aX (l:List UInt8):Int:=l.foldl (fun n c=>n*10+((c.toNat:Int) - 48)) 0
theorem jO (s:ByteArray) (k:Nat) (h:k<s.size):s.data.toList.take (k+1)=s.data.toList.take k++[s[k]]:=by
 rw[List.take_succ_eq_append_getElem (by simpa using h)];rfl
theorem iz (p:UInt8→Bool) (s:ByteArray) (k:Nat) (h:k<s.size):(s.data.toList.take (k+1)).all p=((s.data.toList.take k).all p&&p s[k]):=by
 rw[jO s k h];simp
theorem mh (p:UInt8→Bool) (s:ByteArray) (k:Nat) (h:s.size≤k):(s.data.toList.take k).all p=s.data.toList.all p:=by
 rw[List.take_of_length_le (by simpa using h)]
theorem all_false (p:UInt8→Bool) (s:ByteArray) (k:Nat) (h:k<s.size) (hp:p s[k]=false):s.data.toList.all p=false:=by
 rw[List.all_eq_false];exact⟨s[k],List.getElem_mem (by simpa using h),by simp[hp]⟩
theorem aq {a b:Bool} (h:a=b):Ending.returned (.bool a)=.returned (.bool b):=by rw[h]
theorem cU {k:IntKind} {a b:Int} (h:a=b):Ending.returned (.int k a)=.returned (.int k b):=by rw[h]
end Go.Proofs.YtopjjknojnfhmaaGreatDoor.Pl
