import Derived.Test.YtopjjknojnfhmaaGreatDoorEPw
namespace Go.Proofs.YtopjjknojnfhmaaGreatDoor.Pl
def xJ (acc:List UInt8):List UInt8→List (List UInt8)
 |[]=> [acc]
 |c::l=>if c.toNat=32 then acc::xJ [] l else xJ (acc++[c]) l
def fj (s:ByteArray):List ByteArray:=(xJ [] s.data.toList).map fun x=>⟨x.toArray⟩
def kk (s:ByteArray) (f k:Nat):List ByteArray:=(xJ ((s.data.toList.drop f).take (k - f)) (s.data.toList.drop k)).map fun x=>⟨x.toArray⟩
theorem xz (s:ByteArray):kk s 0 0=fj s:=by simp[kk,fj]
theorem Cu (s:ByteArray) (f k:Nat) (h:k<s.size) (hc:s[k].toNat=32):kk s f k=s.extract f k::kk s (k+1) (k+1):=by
 rw[kk,iU s k h,xJ,if_pos hc,List.map_cons,← gu,back,kk];simp
theorem Gd (s:ByteArray) (f k:Nat) (hf:f≤k) (h:k<s.size) (hc:s[k].toNat≠32):kk s f k=kk s f (k+1):=by
 rw[kk,iU s k h,xJ,if_neg hc,kk];congr 2;have e:k+1 - f=(k - f)+1:=by omega
 have hl:k - f<(s.data.toList.drop f).length:=by rw[vr];omega
 rw[e,List.take_succ_eq_append_getElem hl];congr 2;rw[List.getElem_drop];have:f+(k - f)=k:=by omega
 simp only[this];rfl
theorem Dh (s:ByteArray) (f:Nat):kk s f s.size=[s.extract f s.size]:=by
 have e:s.data.toList.drop s.size=[]:=List.drop_of_length_le (by rw[aD];exact zE);rw[kk,e,xJ,List.map_cons,List.map_nil,← gu,back]
end Go.Proofs.YtopjjknojnfhmaaGreatDoor.Pl
namespace Go.Proofs.YtopjjknojnfhmaaGreatDoor.Pl
structure Ru where
 key:ByteArray
 args:List Int
 many:Bool
 dflt:List ByteArray
def ju:List Ru:=[⟨{data:=#[99,111,112,105,101,115]},[1],false,[{data:=#[49,48,48]}]⟩,⟨{data:=#[114,111,111,109]},[1],false,[{data:=#[49,48,48,48]}]⟩]
def jd:List Ru:=[⟨{data:=#[122,111,110,101]},[3],false,[{data:=#[122]}]⟩,⟨{data:=#[114,111,111,109]},[1],false,[{data:=#[49,48,48]}]⟩,⟨{data:=#[104,111,108,100]},[1],false,[{data:=#[49,48,48]}]⟩,⟨{data:=#[109,97,114,107]},[3],true,[]⟩]
def fY:List Ru:=[⟨{data:=#[116,101,97,109]},[3],false,[{data:=#[99,111,114,101]}]⟩,⟨{data:=#[105,109,97,103,101]},[1],false,[{data:=#[49]}]⟩,⟨{data:=#[119,97,110,116]},[1],false,[{data:=#[49]}]⟩,⟨{data:=#[100,111,119,110]},[1],false,[{data:=#[49]}]⟩,⟨{data:=#[111,118,101,114]},[1],false,[{data:=#[48]}]⟩,⟨{data:=#[110,101,101,100,115]},[1,1],false,[{data:=#[49]},{data:=#[49]}]⟩,⟨{data:=#[119,104,101,114,101]},[4],false,[{data:=#[]}]⟩,⟨{data:=#[108,105,107,101]},[4,2],true,[]⟩,⟨{data:=#[97,112,97,114,116]},[6],false,[{data:=#[110,111,110,101]}]⟩,⟨{data:=#[118,111,108,117,109,101]},[5],false,[{data:=#[110,111]}]⟩,⟨{data:=#[102,111,108,108,111,119]},[1,1,1],false,[{data:=#[48]},{data:=#[48]},{data:=#[48]}]⟩,⟨{data:=#[112,97,99,101]},[1,1,1],false,[{data:=#[48]},{data:=#[48]},{data:=#[48]}]⟩]
def ai (s:ByteArray):List Ru:=
 if s.toList==[116,101,97,109] then ju
 else if s.toList==[98,101,114,116,104] then jd
 else if s.toList==[115,101,114,118,105,99,101] then fY
 else []
theorem nF:fj {data:=#[49,48,48]}=[{data:=#[49,48,48]}]:=by rfl
theorem qJ:fj {data:=#[49,48,48,48]}=[{data:=#[49,48,48,48]}]:=by rfl
theorem pz:fj {data:=#[122]}=[{data:=#[122]}]:=by rfl
theorem ps:fj {data:=#[49,48,48]}=[{data:=#[49,48,48]}]:=by rfl
theorem oY:fj {data:=#[49,48,48]}=[{data:=#[49,48,48]}]:=by rfl
theorem l6:fj {data:=#[99,111,114,101]}=[{data:=#[99,111,114,101]}]:=by rfl
theorem lF:fj {data:=#[49]}=[{data:=#[49]}]:=by rfl
theorem lV:fj {data:=#[49]}=[{data:=#[49]}]:=by rfl
theorem mz:fj {data:=#[49]}=[{data:=#[49]}]:=by rfl
theorem my:fj {data:=#[48]}=[{data:=#[48]}]:=by rfl
theorem lj:fj {data:=#[49,32,49]}=[{data:=#[49]},{data:=#[49]}]:=by rfl
theorem lu:fj {data:=#[]}=[{data:=#[]}]:=by rfl
theorem lH:fj {data:=#[110,111,110,101]}=[{data:=#[110,111,110,101]}]:=by rfl
theorem kO:fj {data:=#[110,111]}=[{data:=#[110,111]}]:=by rfl
theorem kH:fj {data:=#[48,32,48,32,48]}=[{data:=#[48]},{data:=#[48]},{data:=#[48]}]:=by rfl
theorem lT:fj {data:=#[48,32,48,32,48]}=[{data:=#[48]},{data:=#[48]},{data:=#[48]}]:=by rfl
end Go.Proofs.YtopjjknojnfhmaaGreatDoor.Pl
