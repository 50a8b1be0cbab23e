import Derived.Test.YtgiglpnaekbegaaGreatDoorEPl
namespace Go.Proofs.YtgiglpnaekbegaaGreatDoor.Pl
def fW (c:UInt8) (r:List UInt8):Option (List UInt8×Nat):=
 if c.toNat=34 then dz r
 else if ck c then some ((c::r).takeWhile ck,((c::r).takeWhile ck).length - 1) else none
def behind (l:List UInt8):Bool:=match l with
 |[]=>true
 |c::_=>decide (c.toNat=32)||decide (c.toNat=35)
def bo:List UInt8→Nat→Option (List ByteArray)
 |[],_=>some []
 |c::r,m=>
  if c.toNat=32 then bo r m
  else if c.toNat=35 then some []
  else match fW c r with
   |none=>none
   |some (x,n)=>if behind (r.drop n)&&decide (x.length≤200)&&decide (m<8) then (bo (r.drop n) (m+1)).map (⟨x.toArray⟩::·) else none
termination_by l=>l.length
decreasing_by all_goals simp_all<;>omega
theorem QH (r:List UInt8) (c:UInt8) (m:Nat) (h1:c.toNat≠32) (h2:c.toNat≠35) (h:fW c r=none):bo (c::r) m=none:=by
 rw[bo,if_neg h1,if_neg h2,h]
theorem QB (r:List UInt8) (c:UInt8) (m:Nat) (x:List UInt8) (n:Nat) (h1:c.toNat≠32) (h2:c.toNat≠35) (h:fW c r=some (x,n)) (hb:(behind (r.drop n)&&decide (x.length≤200)&&decide (m<8))=false):bo (c::r) m=none:=by
 rw[bo,if_neg h1,if_neg h2,h];simp only[hb,Yo,if_false]
theorem QK (r:List UInt8) (c:UInt8) (m:Nat) (x:List UInt8) (n:Nat) (h1:c.toNat≠32) (h2:c.toNat≠35) (h:fW c r=some (x,n)) (hb:(behind (r.drop n)&&decide (x.length≤200)&&decide (m<8))=true):bo (c::r) m=(bo (r.drop n) (m+1)).map (⟨x.toArray⟩::·):=by
 rw[bo,if_neg h1,if_neg h2,h];simp only[hb,if_true]
theorem QJ {l d d':List UInt8} {ws:List ByteArray} {x:ByteArray} (h:bo l 0=(bo d ws.length).map (ws++·)) (h':bo d ws.length=(bo d' (ws.length+1)).map (x::·)):bo l 0=(bo d' (ws++[x]).length).map ((ws++[x])++·):=by
 rw[h,h',Option.map_map,At];congr 1;funext p
 simp[Function.comp]
theorem qd:∀ (l:List UInt8) (j:Nat),j≤l.length→(∀ i (h:i<l.length),i<j→ck l[i]=true)→(∀ h:j<l.length,ck l[j]=false)→l.takeWhile ck=l.take j
 |[],j,hj,_,_=>by simp
 |c::l,0,hj,_,h=>by
  have:=h (by simp);simp only[YF]at this;rw[Yy,this];simp
 |c::l,j+1,hj,ha,h=>by
  have:=ha 0 (by simp) (by omega);simp only[YF]at this;rw[Yy,this,Ye];simp only[if_true];rw[qd l j (by simpa using hj) (fun i hi ID=>ha (i+1) (by rw[Xm];omega) (by omega)) (fun hh=>h (by rw[Xm];omega))]
theorem eW (s:ByteArray) (a b:Nat):(s.extract a b).data.toList=(s.data.toList.drop a).take (b - a):=by
 simp[ByteArray.data_extract]
theorem j5 (s:ByteArray) (a:Nat):(s.extract a s.size).data.toList=s.data.toList.drop a:=by
 rw[eW,Xp (by rw[eF];exact zE)]
theorem Nr (s:ByteArray) (k:Nat) (h:k<s.size) (h34:s[k].toNat≠34) (hb:ck s[k]=false):fW s[k] (s.data.toList.drop (k+1))=none:=by
 rw[fW,if_neg h34,hb];rfl
theorem QP (s:ByteArray) (k p:Nat) (h:k<s.size) (h34:s[k].toNat≠34) (hkp:k<p) (hp:p≤s.size) (bA:∀ i (hi:i<s.size),k≤i→i<p→ck s[i]=true) (qw:∀ hi:p<s.size,ck s[p]=false):
  fW s[k] (s.data.toList.drop (k+1))=some ((s.extract k p).data.toList,p - k - 1):=by
 have hb:=bA k h zE hkp;have htw:(s.data.toList.drop k).takeWhile ck=(s.data.toList.drop k).take (p - k):=by
  refine qd _ _ (by rw[eF];omega) (fun i hi ID=> ?_) (fun hi=> ?_)
  ·rw[List.getElem_drop];have Wi:k+i<s.size:=by rw[eF]at hi;omega
   exact bA (k+i) Wi (by omega) (by omega)
  ·have Wi:p<s.size:=by rw[eF]at hi;omega
   have:=qw Wi;have e:(s.data.toList.drop k)[p - k]=s[p]:=by
    rw[List.getElem_drop];have:k+(p - k)=p:=by omega
    simp only[this];rfl
   rw[e];exact this
 rw[fW,if_neg h34,hb,← dB s k h,htw,eW];simp only[if_true];congr 2;rw[Xo,eF];omega
end Go.Proofs.YtgiglpnaekbegaaGreatDoor.Pl
