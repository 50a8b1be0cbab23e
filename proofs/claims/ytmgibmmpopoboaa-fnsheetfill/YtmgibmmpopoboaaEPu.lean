import Derived.Test.YtmgibmmpopoboaaEPl
namespace Go.Proofs.Ytmgibmmpopoboaa.Pl
theorem sd (s:ByteArray) (a b:Nat):(s.extract a b).data.toList=(s.data.toList.drop a).take (b - a):=by
 simp[ByteArray.data_extract]
end Go.Proofs.Ytmgibmmpopoboaa.Pl
namespace Go.Proofs.Ytmgibmmpopoboaa.Pl
def ux (acc:List UInt8):List UInt8→List (List UInt8)
 |[]=> [acc]
 |c::l=>if c.toNat=32 then acc::ux [] l else ux (acc++[c]) l
def eQ (s:ByteArray):List ByteArray:=(ux [] s.data.toList).map fun x=>⟨x.toArray⟩
def jG (s:ByteArray) (f k:Nat):List ByteArray:=(ux ((s.data.toList.drop f).take (k - f)) (s.data.toList.drop k)).map fun x=>⟨x.toArray⟩
theorem uu (s:ByteArray):jG s 0 0=eQ s:=by simp[jG,eQ]
theorem At (s:ByteArray) (f k:Nat) (h:k<s.size) (hc:s[k].toNat=32):jG s f k=s.extract f k::jG s (k+1) (k+1):=by
 rw[jG,vj s k h,ux,if_pos hc,List.map_cons,← sd,back,jG];simp
theorem CD (s:ByteArray) (f k:Nat) (hf:f≤k) (h:k<s.size) (hc:s[k].toNat≠32):jG s f k=jG s f (k+1):=by
 rw[jG,vj s k h,ux,if_neg hc,jG];congr 2;have e:k+1 - f=(k - f)+1:=by omega
 have hl:k - f<(s.data.toList.drop f).length:=by rw[yU];omega
 rw[e,List.take_succ_eq_append_getElem hl];congr 2;rw[List.getElem_drop];have:f+(k - f)=k:=by omega
 simp only[this];rfl
theorem y8 (s:ByteArray) (f:Nat):jG s f s.size=[s.extract f s.size]:=by
 have e:s.data.toList.drop s.size=[]:=List.drop_of_length_le (by rw[dY];exact zE);rw[jG,e,ux,List.map_cons,List.map_nil,← sd,back]
end Go.Proofs.Ytmgibmmpopoboaa.Pl
namespace Go.Proofs.Ytmgibmmpopoboaa.Pl
structure Ru where
 key:ByteArray
 args:List Int
 many:Bool
 dflt:List ByteArray
def iY:List Ru:=[⟨{data:=#[99,111,112,105,101,115]},[1],false,[{data:=#[49,48,48]}]⟩,⟨{data:=#[114,111,111,109]},[1],false,[{data:=#[49,48,48,48]}]⟩]
def ix:List Ru:=[⟨{data:=#[122,111,110,101]},[3],false,[{data:=#[122]}]⟩,⟨{data:=#[114,111,111,109]},[1],false,[{data:=#[49,48,48]}]⟩,⟨{data:=#[104,111,108,100]},[1],false,[{data:=#[49,48,48]}]⟩,⟨{data:=#[109,97,114,107]},[3],true,[]⟩]
def fM:List Ru:=[⟨{data:=#[116,101,97,109]},[3],false,[{data:=#[99,111,114,101]}]⟩,⟨{data:=#[105,109,97,103,101]},[1],false,[{data:=#[49]}]⟩,⟨{data:=#[119,97,110,116]},[1],false,[{data:=#[49]}]⟩,⟨{data:=#[100,111,119,110]},[1],false,[{data:=#[49]}]⟩,⟨{data:=#[111,118,101,114]},[1],false,[{data:=#[48]}]⟩,⟨{data:=#[110,101,101,100,115]},[1,1],false,[{data:=#[49]},{data:=#[49]}]⟩,⟨{data:=#[119,104,101,114,101]},[4],false,[{data:=#[]}]⟩,⟨{data:=#[108,105,107,101]},[4,2],true,[]⟩,⟨{data:=#[97,112,97,114,116]},[6],false,[{data:=#[110,111,110,101]}]⟩,⟨{data:=#[118,111,108,117,109,101]},[5],false,[{data:=#[110,111]}]⟩,⟨{data:=#[102,111,108,108,111,119]},[1,1,1],false,[{data:=#[48]},{data:=#[48]},{data:=#[48]}]⟩,⟨{data:=#[112,97,99,101]},[1,1,1],false,[{data:=#[48]},{data:=#[48]},{data:=#[48]}]⟩]
def aj (s:ByteArray):List Ru:=
 if s.toList==[116,101,97,109] then iY
 else if s.toList==[98,101,114,116,104] then ix
 else if s.toList==[115,101,114,118,105,99,101] then fM
 else []
theorem mC:eQ {data:=#[49,48,48]}=[{data:=#[49,48,48]}]:=by rfl
theorem oO:eQ {data:=#[49,48,48,48]}=[{data:=#[49,48,48,48]}]:=by rfl
theorem mZ:eQ {data:=#[122]}=[{data:=#[122]}]:=by rfl
theorem nY:eQ {data:=#[49,48,48]}=[{data:=#[49,48,48]}]:=by rfl
theorem nE:eQ {data:=#[49,48,48]}=[{data:=#[49,48,48]}]:=by rfl
theorem lP:eQ {data:=#[99,111,114,101]}=[{data:=#[99,111,114,101]}]:=by rfl
theorem ky:eQ {data:=#[49]}=[{data:=#[49]}]:=by rfl
theorem lM:eQ {data:=#[49]}=[{data:=#[49]}]:=by rfl
theorem lC:eQ {data:=#[49]}=[{data:=#[49]}]:=by rfl
theorem lI:eQ {data:=#[48]}=[{data:=#[48]}]:=by rfl
theorem kN:eQ {data:=#[49,32,49]}=[{data:=#[49]},{data:=#[49]}]:=by rfl
theorem ks:eQ {data:=#[]}=[{data:=#[]}]:=by rfl
theorem kB:eQ {data:=#[110,111,110,101]}=[{data:=#[110,111,110,101]}]:=by rfl
theorem j7:eQ {data:=#[110,111]}=[{data:=#[110,111]}]:=by rfl
theorem jX:eQ {data:=#[48,32,48,32,48]}=[{data:=#[48]},{data:=#[48]},{data:=#[48]}]:=by rfl
theorem lE:eQ {data:=#[48,32,48,32,48]}=[{data:=#[48]},{data:=#[48]},{data:=#[48]}]:=by rfl
end Go.Proofs.Ytmgibmmpopoboaa.Pl
