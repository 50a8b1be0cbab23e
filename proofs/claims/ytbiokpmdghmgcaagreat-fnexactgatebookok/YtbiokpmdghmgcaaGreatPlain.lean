import Derived.WalkKit
import Derived.Test.YtbiokpmdghmgcaaGreatBl
namespace Go.Proofs.YtbiokpmdghmgcaaGreat.Pl
def cI (c:UInt8):Bool:=(decide (97≤c.toNat)&&decide (c.toNat≤122))||(decide (48≤c.toNat)&&decide (c.toNat≤57))||decide (c.toNat=45)
def nameBytes (s:ByteArray):Bool:=s.data.toList.all cI
def aq (s:ByteArray):Bool:=decide (1≤s.size)&&decide (s.size≤16)&&nameBytes s
def digit (c:UInt8):Bool:=decide (48≤c.toNat)&&decide (c.toNat≤57)
def lead (s:ByteArray):Bool:=decide (1<s.size)&&(s.data.toList.headD 0==48)
def du (s:ByteArray):Bool:=decide (1≤s.size)&&decide (s.size≤7)&& !lead s&&s.data.toList.all digit
def cM (l:List UInt8):Int:=l.foldl (fun n c=>n*10+((c.toNat:Int) - 48)) 0
def has (ss:List ByteArray) (s:ByteArray):Bool:=ss.any (fun x=>x.toList==s.toList)
def eD (c:UInt8):Bool:=decide (33≤c.toNat)&&decide (c.toNat≤126)
def eE (s:ByteArray):Bool:=s.data.toList.all eD
def fits (kind least most:Int) (ss:List ByteArray) (v:ByteArray):Bool:=
 if kind=1 then du v&&decide (least≤cM v.data.toList)&&decide (cM v.data.toList≤most)
 else if kind=2 then decide (1≤v.size)&&has ss v
 else if kind=3 then decide (1≤v.size)&&eE v&&decide (least≤(v.size:Int))&&decide ((v.size:Int)≤most)
 else if kind=4 then aq v
 else false
theorem pM (s:ByteArray) (k:Nat) (h:k<s.size):s.data.toList.take (k+1)=s.data.toList.take k++[s[k]]:=by
 rw[List.take_succ_eq_append_getElem (by simpa using h)];rfl
theorem gH (p:UInt8→Bool) (s:ByteArray) (k:Nat) (h:k<s.size):(s.data.toList.take (k+1)).all p=((s.data.toList.take k).all p&&p s[k]):=by
 rw[pM s k h];simp
theorem jj (p:UInt8→Bool) (s:ByteArray) (k:Nat) (h:s.size≤k):(s.data.toList.take k).all p=s.data.toList.all p:=by
 rw[List.take_of_length_le (by simpa using h)]
theorem all_false (p:UInt8→Bool) (s:ByteArray) (k:Nat) (h:k<s.size) (hp:p s[k]=false):s.data.toList.all p=false:=by
 rw[List.all_eq_false];exact⟨s[k],List.getElem_mem (by simpa using h),by simp[hp]⟩
theorem rj (ss:List ByteArray) (s:ByteArray) (k:Nat) (h:k<ss.length):has (ss.take (k+1)) s=(has (ss.take k) s||(ss[k].toList==s.toList)):=by
 unfold has;rw[List.take_succ_eq_append_getElem h,List.any_append];simp only[List.any_cons,List.any_nil,Bool.or_false]
theorem q8 (ss:List ByteArray) (s:ByteArray) (k:Nat) (h:k<ss.length) (hp:(ss[k].toList==s.toList)=true):has ss s=true:=by
 simp only[has,List.any_eq_true];exact⟨ss[k],List.getElem_mem h,hp⟩
theorem pL (ss:List ByteArray) (s:ByteArray) (k:Nat) (h:ss.length≤k):has (ss.take k) s=has ss s:=by
 rw[List.take_of_length_le h]
theorem ae {a b:Bool} (h:a=b):Ending.returned (.bool a)=.returned (.bool b):=by rw[h]
theorem aS {k:IntKind} {a b:Int} (h:a=b):Ending.returned (.int k a)=.returned (.int k b):=by rw[h]
end Go.Proofs.YtbiokpmdghmgcaaGreat.Pl
