import Derived.Test.YtopjjknojnfhmaaGreatDoorEPl
namespace Go.Proofs.YtopjjknojnfhmaaGreatDoor.Pl
def fm (c:UInt8) (r:List UInt8):Option (List UInt8×Nat):=
 if c.toNat=34 then gq r
 else if bx c then some ((c::r).takeWhile bx,((c::r).takeWhile bx).length - 1) else none
def behind (l:List UInt8):Bool:=match l with
 |[]=>true
 |c::_=>decide (c.toNat=32)||decide (c.toNat=35)
def bE:List UInt8→Nat→Option (List ByteArray)
 |[],_=>some []
 |c::r,m=>
  if c.toNat=32 then bE r m
  else if c.toNat=35 then some []
  else match fm c r with
   |none=>none
   |some (x,n)=>if behind (r.drop n)&&decide (x.length≤200)&&decide (m<8) then (bE (r.drop n) (m+1)).map (⟨x.toArray⟩::·) else none
termination_by l=>l.length
decreasing_by all_goals simp_all<;>omega
theorem QQ (r:List UInt8) (c:UInt8) (m:Nat) (h1:c.toNat≠32) (h2:c.toNat≠35) (h:fm c r=none):bE (c::r) m=none:=by
 rw[bE,if_neg h1,if_neg h2,h]
theorem QT (r:List UInt8) (c:UInt8) (m:Nat) (x:List UInt8) (n:Nat) (h1:c.toNat≠32) (h2:c.toNat≠35) (h:fm c r=some (x,n)) (hb:(behind (r.drop n)&&decide (x.length≤200)&&decide (m<8))=false):bE (c::r) m=none:=by
 rw[bE,if_neg h1,if_neg h2,h];simp only[hb,Bool.false_eq_true,if_false]
theorem Ce (r:List UInt8) (c:UInt8) (m:Nat) (x:List UInt8) (n:Nat) (h1:c.toNat≠32) (h2:c.toNat≠35) (h:fm c r=some (x,n)) (hb:(behind (r.drop n)&&decide (x.length≤200)&&decide (m<8))=true):bE (c::r) m=(bE (r.drop n) (m+1)).map (⟨x.toArray⟩::·):=by
 rw[bE,if_neg h1,if_neg h2,h];simp only[hb,if_true]
theorem QK {l d d':List UInt8} {ws:List ByteArray} {x:ByteArray} (h:bE l 0=(bE d ws.length).map (ws++·)) (h':bE d ws.length=(bE d' (ws.length+1)).map (x::·)):bE l 0=(bE d' (ws++[x]).length).map ((ws++[x])++·):=by
 rw[h,h',Option.map_map,List.length_append];congr 1;funext p
 simp[Function.comp]
theorem sM:∀ (l:List UInt8) (j:Nat),j≤l.length→(∀ i (h:i<l.length),i<j→bx l[i]=true)→(∀ h:j<l.length,bx l[j]=false)→l.takeWhile bx=l.take j
 |[],j,hj,_,_=>by simp
 |c::l,0,hj,_,h=>by
  have:=h (by simp);simp only[List.getElem_cons_zero]at this;rw[List.takeWhile_cons,this];simp
 |c::l,j+1,hj,ha,h=>by
  have:=ha 0 (by simp) (by omega);simp only[List.getElem_cons_zero]at this;rw[List.takeWhile_cons,this,List.take_succ_cons];simp only[if_true];rw[sM l j (by simpa using hj) (fun i hi LU=>ha (i+1) (by rw[List.length_cons];omega) (by omega)) (fun hh=>h (by rw[List.length_cons];omega))]
theorem gu (s:ByteArray) (a b:Nat):(s.extract a b).data.toList=(s.data.toList.drop a).take (b - a):=by
 simp[ByteArray.data_extract]
theorem jX (s:ByteArray) (a:Nat):(s.extract a s.size).data.toList=s.data.toList.drop a:=by
 rw[gu,List.take_of_length_le (by rw[vr];exact zE)]
end Go.Proofs.YtopjjknojnfhmaaGreatDoor.Pl
