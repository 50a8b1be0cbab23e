import Derived.Test.YtgiglpnaekbegaaGreatDoorEPw
namespace Go.Proofs.YtgiglpnaekbegaaGreatDoor.Pl
def zm (acc:List UInt8):List UInt8→List (List UInt8)
 |[]=> [acc]
 |c::l=>if c.toNat=32 then acc::zm [] l else zm (acc++[c]) l
def gj (s:ByteArray):List ByteArray:=(zm [] s.data.toList).map fun x=>⟨x.toArray⟩
def lK (s:ByteArray) (f k:Nat):List ByteArray:=(zm ((s.data.toList.drop f).take (k - f)) (s.data.toList.drop k)).map fun x=>⟨x.toArray⟩
theorem zy (s:ByteArray):lK s 0 0=gj s:=by simp[lK,gj]
theorem Hb (s:ByteArray) (f k:Nat) (h:k<s.size) (hc:s[k].toNat=32):lK s f k=s.extract f k::lK s (k+1) (k+1):=by
 rw[lK,dB s k h,zm,if_pos hc,XS,← eW,back,lK];simp
theorem Kc (s:ByteArray) (f k:Nat) (hf:f≤k) (h:k<s.size) (hc:s[k].toNat≠32):lK s f k=lK s f (k+1):=by
 rw[lK,dB s k h,zm,if_neg hc,lK];congr 2;have e:k+1 - f=(k - f)+1:=by omega
 have hl:k - f<(s.data.toList.drop f).length:=by rw[eF];omega
 rw[e,XI hl];congr 2;rw[List.getElem_drop];have:f+(k - f)=k:=by omega
 simp only[this];rfl
theorem G9 (s:ByteArray) (f:Nat):lK s f s.size=[s.extract f s.size]:=by
 have e:s.data.toList.drop s.size=[]:=Xz (by rw[aD];exact zE);rw[lK,e,zm,XS,List.map_nil,← eW,back]
end Go.Proofs.YtgiglpnaekbegaaGreatDoor.Pl
