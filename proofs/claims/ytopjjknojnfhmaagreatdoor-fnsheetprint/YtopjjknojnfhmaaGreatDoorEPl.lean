import Derived.Test.YtopjjknojnfhmaaGreatDoorPlain
namespace Go.Proofs.YtopjjknojnfhmaaGreatDoor.Pl
theorem mR (l:List UInt8) (c:UInt8):aX (l++[c])=aX l*10+((c.toNat:Int) - 48):=by
 simp[aX,List.foldl_append]
theorem jq (s:ByteArray) (k:Nat) (h:k<s.size):aX (s.data.toList.take (k+1))=aX (s.data.toList.take k)*10+((s[k].toNat:Int) - 48):=by
 rw[jO s k h,mR]
theorem zZ (s:ByteArray) (k:Nat) (hk:k≤s.size) (h:(s.data.toList.take k).all digit=true):
  0≤aX (s.data.toList.take k)∧aX (s.data.toList.take k)+1≤((10 ^ k:Nat):Int):=by
 induction k with
 |zero=>simp[aX]
 |succ k ih=>
  have bd:k<s.size:=by omega
  rw[iz _ _ _ bd]at h;simp only[Bool.and_eq_true]at h;obtain⟨ha,hb⟩:=h;have ih':=ih (by omega) ha;rw[jq s k bd,Nat.pow_succ];simp only[digit,Bool.and_eq_true,decide_eq_true_eq]at hb;omega
theorem ly (s:ByteArray) (k:Nat) (hk:k≤s.size) (h7:k≤7) (h:(s.data.toList.take k).all digit=true):
  0≤aX (s.data.toList.take k)∧aX (s.data.toList.take k)≤9999999:=by
 have hb:=zZ s k hk h;have:10 ^ k≤10 ^ 7:=Nat.pow_le_pow_right (by omega) h7;omega
theorem oh (s:ByteArray) (h:0<s.size):s.data.toList.headD 0=s[0]:=by
 have:s.data.toList≠ []:=by
  intro e;have:s.size=0:=by
   have:=congrArg List.length e;simpa using this
  omega
 rw[List.headD_eq_head?_getD,List.head?_eq_some_head this];simp[List.head_eq_getElem];rfl
theorem yP (s:ByteArray) (h:0<s.size):lead s=(decide (1<s.size)&&(s[0]==48)):=by
 rw[lead,oh s h]
theorem pG (c d:UInt8):(c==d)=((c.toNat:Int)==(d.toNat:Int)):=by
 rw[Bool.eq_iff_iff];simp[← UInt8.toNat_inj];omega
theorem tl (s:ByteArray):s.toList=s.data.toList:=ByteArray.toList_eq s
theorem aD (s:ByteArray):s.data.toList.length=s.size:=Array.length_toList
theorem fE (s:ByteArray) (h:1≤s.size):s.toList.isEmpty=false:=by
 rw[tl];rw[← aD]at h;revert h
 cases s.data.toList with
 |nil=>intro h;exact absurd h (by decide)
 |cons a l=>intro _;rfl
theorem fq (s:ByteArray) (h:¬ 1≤s.size):s.toList.isEmpty=true:=by
 rw[tl];rw[← aD]at h;revert h
 cases s.data.toList with
 |nil=>intro _;rfl
 |cons a l=>intro h;exact absurd (Nat.succ_le_succ (Nat.zero_le l.length)) h
theorem Ew (s:ByteArray) (h:s.size=1) (c:UInt8) (hc:s.data.toList.headD 0=c):(s.toList==[c])=true:=by
 rw[tl];have h':s.data.toList.length=1:=by rw[aD];exact h
 obtain⟨a,ha⟩:=List.length_eq_one_iff.1 h';rw[ha]at hc ⊢;simpa using hc
theorem xC (s:ByteArray) (h:1<s.size) (c:UInt8):(s.toList==[c])=false:=by
 rw[tl,beq_eq_false_iff_ne];intro e;have:=congrArg List.length e;rw[aD]at this;have e1:[c].length=1:=rfl;omega
end Go.Proofs.YtopjjknojnfhmaaGreatDoor.Pl
namespace Go.Proofs.YtopjjknojnfhmaaGreatDoor.Pl
def bx (c:UInt8):Bool:=decide (33≤c.toNat)&&decide (c.toNat≤126)&&(c.toNat !=34)&&(c.toNat !=35)&&(c.toNat !=92)
def eC (c:UInt8):Bool:=decide (32≤c.toNat)&&decide (c.toNat≤126)&&(c.toNat !=34)&&(c.toNat !=92)
def dd (n:Nat):UInt8:=if n<10 then UInt8.ofNat (48+n) else UInt8.ofNat (87+n)
def cq (c:UInt8):List UInt8:=if eC c then [c] else [92,dd (c.toNat / 16),dd (c.toNat % 16)]
def iu (l:List UInt8):Bool:=decide (0<l.length)&&l.all bx
def de (l:List UInt8):List UInt8:=if iu l then l else 34::(l.flatMap cq++[34])
def bY (s:ByteArray):ByteArray:=⟨(de s.data.toList).toArray⟩
theorem Dc (c:UInt8):(cq c).length≤3:=by unfold cq;split<;>simp
theorem nY:∀ l:List UInt8,(l.flatMap cq).length≤3*l.length
 |[]=>by simp
 |c::l=>by rw[List.flatMap_cons,List.length_append,List.length_cons];have:=Dc c;have:=nY l;omega
theorem back (s:ByteArray):(⟨s.data.toList.toArray⟩:ByteArray)=s:=by simp
theorem eo {a b:ByteArray} (h:a=b):Ending.returned (.string a)=.returned (.string b):=by rw[h]
def byV (l:List UInt8):List Value:=l.map fun c=> .int .u8 (c.toNat:Int)
theorem sV (a b:List UInt8):byV (a++b)=byV a++byV b:=List.map_append
theorem y8 (a:List UInt8):(byV a).length=a.length:=List.length_map ..
theorem vP (c:UInt8):c.toNat<256:=c.toNat_lt
def fh (c:UInt8):Int:=if 48≤c.toNat∧c.toNat≤57 then (c.toNat:Int) - 48 else if 97≤c.toNat∧c.toNat≤102 then (c.toNat:Int) - 87 else -1
theorem yT (c:UInt8): -1≤fh c∧fh c≤15:=by unfold fh;split<;>(try split)<;>omega
def gq:List UInt8→Option (List UInt8×Nat)
 |[]=>none
 |c::l=>
  if c.toNat=34 then some ([],1)
  else if c.toNat=92 then
   if 2≤l.length∧0≤fh (l.getD 0 0)∧0≤fh (l.getD 1 0) then (gq (l.drop 2)).map (fun p=>(UInt8.ofNat (16*fh (l.getD 0 0)+fh (l.getD 1 0)).toNat::p.1,p.2+3)) else none
  else if 32≤c.toNat∧c.toNat≤126 then (gq l).map (fun p=>(c::p.1,p.2+1))
  else none
termination_by l=>l.length
decreasing_by all_goals simp_all<;>omega
theorem iU (s:ByteArray) (k:Nat) (h:k<s.size):s.data.toList.drop k=s[k]::s.data.toList.drop (k+1):=by
 rw[List.drop_eq_getElem_cons (by rw[aD];exact h)];rfl
theorem vr (s:ByteArray) (k:Nat):(s.data.toList.drop k).length=s.size - k:=by rw[List.length_drop,aD]
theorem IX (s:ByteArray) (k j:Nat) (h:k+j<s.size):(s.data.toList.drop k).getD j 0=s[k+j]:=by
 have:k+j<s.data.toList.length:=by rw[aD];exact h
 rw[List.getD_eq_getElem?_getD,List.getElem?_drop,List.getElem?_eq_getElem this];rfl
end Go.Proofs.YtopjjknojnfhmaaGreatDoor.Pl
