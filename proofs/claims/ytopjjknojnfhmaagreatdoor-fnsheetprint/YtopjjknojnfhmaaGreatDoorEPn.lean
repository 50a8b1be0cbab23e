import Derived.Lib.ItoaLen
import Derived.Test.YtopjjknojnfhmaaGreatDoorEPu
namespace Go.Proofs.YtopjjknojnfhmaaGreatDoor.Pl
theorem oc:∀ (k n:Nat),1≤k→n<10 ^ k→(Lib.decDigits n).length≤k
 |0,_,h,_=>by omega
 |1,n,_,h=>by rw[Lib.decDigits_one (by simpa using h)];simp
 |k+2,n,_,h=>by
  by_cases Hp:n<10
  ·rw[Lib.decDigits_one Hp];simp
  ·rw[Lib.decDigits,dif_neg Hp,List.length_append,List.length_singleton];have:n / 10<10 ^ (k+1):=by rw[Nat.pow_succ]at h;omega
   have:=oc (k+1) (n / 10) (by omega) this;omega
theorem tn:∀ (l:List UInt8),l.all digit=true→∀ a:Int,0≤a→a≤l.foldl (fun n c=>n*10+((c.toNat:Int) - 48)) a
 |[],_,a,_=>Int.le_refl _
 |c::l,h,a,ha=>by
  rw[List.all_cons,Bool.and_eq_true]at h;have hc:=h.1;simp only[digit,Bool.and_eq_true,decide_eq_true_eq]at hc;rw[List.foldl_cons];have:=tn l h.2 (a*10+((c.toNat:Int) - 48)) (by omega);omega
theorem Bc (l:List UInt8) (h:l.all digit=true):0≤aX l:=tn l h 0 (Int.le_refl _)
theorem xF (c:UInt8) (l:List UInt8) (h:(c::l).all digit=true) (hc:c≠48):1≤aX (c::l):=by
 rw[List.all_cons,Bool.and_eq_true]at h;have h1:=h.1;simp only[digit,Bool.and_eq_true,decide_eq_true_eq]at h1;have du:c.toNat≠48:=fun e=>hc (UInt8.toNat_inj.1 (by simpa using e));rw[aX,List.foldl_cons];have:=tn l h.2 (0*10+((c.toNat:Int) - 48)) (by omega);omega
theorem rN:∀ (l:List UInt8),l.all digit=true→∀ a:Int,0≤a→l.foldl (fun n c=>n*10+((c.toNat:Int) - 48)) a+1≤(a+1)*((10 ^ l.length:Nat):Int)
 |[],_,a,_=>by simp
 |c::l,h,a,ha=>by
  rw[List.all_cons,Bool.and_eq_true]at h;have hc:=h.1;simp only[digit,Bool.and_eq_true,decide_eq_true_eq]at hc;rw[List.foldl_cons,List.length_cons,Nat.pow_succ];have:=rN l h.2 (a*10+((c.toNat:Int) - 48)) (by omega);refine Int.le_trans this ?_;rw[Nat.mul_comm,Int.natCast_mul,← Int.mul_assoc];exact Int.mul_le_mul_of_nonneg_right (by simp;omega) (Int.natCast_nonneg _)
theorem yJ:∀ (n:Nat) (l:List UInt8),l.length=n+1→l.all digit=true→(l.headD 0≠48∨l.length=1)→Lib.decDigits (aX l).toNat=l
 |0,l,hl,ha,_=>by
  obtain⟨c,rfl⟩:=List.length_eq_one_iff.1 hl;simp only[List.all_cons,List.all_nil,Bool.and_true,digit,Bool.and_eq_true,decide_eq_true_eq]at ha;have e:(aX [c]).toNat=c.toNat - 48:=by simp[aX];omega
  rw[e,Lib.decDigits_one (by omega)];congr 1;apply UInt8.toNat_inj.1;rw[UInt8.toNat_ofNat'];have:=vP c;omega
 |n+1,l,hl,ha,hh=>by
  have du:l≠ []:=by intro e;rw[e]at hl;simp at hl
  obtain⟨l',c,rfl⟩:∃ l' c,l=l'++[c]:=⟨l.dropLast,l.getLast du,(List.dropLast_concat_getLast du).symm⟩
  rw[List.length_append,List.length_singleton]at hl;rw[List.all_append,Bool.and_eq_true]at ha;obtain⟨Qm,RE⟩:=ha;simp only[List.all_cons,List.all_nil,Bool.and_true,digit,Bool.and_eq_true,decide_eq_true_eq]at RE;have hhd:l'.headD 0≠48:=by
   rcases hh with h|h
   ·cases l' with
    |nil=>simp at hl
    |cons d l''=>simpa using h
   ·rw[List.length_append,List.length_singleton]at h;omega
  have ih:=yJ n l' (by omega) Qm (Or.inl hhd);have hp:1≤aX l':=by
   cases l' with
   |nil=>simp at hl
   |cons d l''=>exact xF d l'' Qm (by simpa using hhd)
  have e:(aX (l'++[c])).toNat=(aX l').toNat*10+(c.toNat - 48):=by rw[mR];omega
  rw[Lib.decDigits,dif_neg (by rw[e];omega)];have e1:(aX (l'++[c])).toNat / 10=(aX l').toNat:=by rw[e];omega
  have e2:(aX (l'++[c])).toNat % 10=c.toNat - 48:=by rw[e];omega
  rw[e1,e2,ih];congr 2;apply UInt8.toNat_inj.1;rw[UInt8.toNat_ofNat'];have:=vP c;omega
theorem Et (c:UInt8) (l:List UInt8) (h:(48::c::l).all digit=true):Lib.decDigits (aX (48::c::l)).toNat≠48::c::l:=by
 intro e;have h2:(c::l).all digit=true:=by rw[List.all_cons,Bool.and_eq_true]at h;exact h.2
 have e1:aX (48::c::l)=aX (c::l):=by rw[aX,List.foldl_cons];simp[aX]
 have bd:=rN (c::l) h2 0 (Int.le_refl _);have qs:=Bc (c::l) h2;have hb:(aX (c::l)).toNat<10 ^ (c::l).length:=by
  have:aX (c::l)+1≤((10 ^ (c::l).length:Nat):Int):=by simpa [aX]using bd
  omega
 have:=oc (c::l).length _ (by simp) hb;rw[← e1,e]at this;simp at this;omega
theorem J9 (s:ByteArray) (h1:1≤s.size) (ha:s.data.toList.all digit=true):(Lib.decDigits (aX s.data.toList).toNat==s.data.toList)= !lead s:=by
 rw[lead,Bool.eq_iff_iff];have hl:=aD s;cases hd:s.data.toList with
 |nil=>rw[hd]at hl;simp at hl;omega
 |cons c l=>
  rw[hd]at hl ha;simp only[beq_iff_eq,Bool.not_eq_true',Bool.and_eq_false_iff,decide_eq_false_iff_not,List.headD_cons,beq_eq_false_iff_ne,ne_eq];constructor
  ·intro e;by_cases hc:c=48
   ·subst hc;cases l with
    |nil=>left;rw[← hl];simp
    |cons d l=>exact absurd e (Et d l ha)
   ·exact Or.inr hc
  ·intro h;refine yJ l.length (c::l) (by simp) ha ?_;rcases h with h|h
   ·right;omega
   ·left;simpa using h
def cV (s:ByteArray):Bool:=dF s&&decide (aX s.data.toList≤1000000)
def pL (s:ByteArray):Bool:=cV s||(decide (1<s.size)&&(s.data.toList.headD 0==45)&& !((s.extract 1 s.size).toList==[48])&&cV (s.extract 1 s.size))
def aT (s:ByteArray):Bool:=decide (1≤s.size)&&decide (s.size≤20)&&nameBytes s
def dV (t:Int) (s:ByteArray):Bool:=
 if t=1 then cV s
 else if t=2 then pL s
 else if t=3 then aT s
 else if t=5 then (s.toList==[121,101,115])||(s.toList==[110,111])
 else if t=6 then (s.toList==[110,111,110,101])||(s.toList==[98,101,114,116,104])||(s.toList==[122,111,110,101])
 else decide (s.size≤200)
def dU (key:ByteArray):List Ru→Nat→Option Nat
 |[],_=>none
 |r::l,j=>if r.key.toList==key.toList then some j else dU key l (j+1)
def bC (l:List Ru) (key:ByteArray):Option Nat:=dU key l 0
def bq:Ru:=⟨⟨#[]⟩,[],false,[]⟩
def ixI:Option Nat→Int
 |none=> -1
 |some j=>(j:Int)
theorem uQ {l:List Ru} {key:ByteArray} {k:Nat} (hk:k<l.length) (h:bC l key=dU key (l.drop k) k) (hb:((l.getD k bq).key.toList==key.toList)=true):bC l key=some k:=by
 have e:l.getD k bq=l[k]:=by simp[hk]
 rw[h,List.drop_eq_getElem_cons hk,dU,← e,if_pos hb]
theorem rY {l:List Ru} {key:ByteArray} {k:Nat} (hk:k<l.length) (h:bC l key=dU key (l.drop k) k) (hb:((l.getD k bq).key.toList==key.toList)=false):bC l key=dU key (l.drop (k+1)) (k+1):=by
 have e:l.getD k bq=l[k]:=by simp[hk]
 rw[h,List.drop_eq_getElem_cons hk,dU,← e,hb];rfl
theorem vj {l:List Ru} {key:ByteArray} (h:bC l key=dU key (l.drop l.length) l.length):bC l key=none:=by
 rw[h,List.drop_length,dU]
theorem vR {key:ByteArray}:∀ (l:List Ru) (j k:Nat),dU key l j=some k→j≤k∧k<j+l.length
 |[],_,_,h=>by simp[dU]at h
 |r::l,j,k,h=>by
  rw[dU]at h;split at h
  ·injection h with h;subst h;simp
  ·have:=vR l (j+1) k h;simp only[List.length_cons];omega
theorem iZ {l:List Ru} {key:ByteArray} {k:Nat} (h:bC l key=some k):k<l.length:=by have:=vR l 0 k h;omega
def eV:List Int→List ByteArray→Bool
 |a::zs,w::ws=>dV a w&&eV zs ws
 |_,_=>true
def gP (args:List Int) (ws:List ByteArray):Bool:=decide (args.length=ws.length)&&eV args ws
theorem ui {zs:List Int} {ws:List ByteArray} {k:Nat} (h1:k<zs.length) (h2:k<ws.length):eV (zs.drop k) (ws.drop k)=(dV (zs.getD k 0) (ws.getD k ⟨#[]⟩)&&eV (zs.drop (k+1)) (ws.drop (k+1))):=by
 have e1:zs.getD k 0=zs[k]:=by simp[h1]
 have e2:ws.getD k ⟨#[]⟩=ws[k]:=by simp[h2]
 rw[List.drop_eq_getElem_cons h1,List.drop_eq_getElem_cons h2,eV,e1,e2]
def bh (kind key:ByteArray) (ws:List ByteArray):Bool:=match bC (ai kind) key with
 |none=>false
 |some j=>gP ((ai kind).getD j bq).args ws
end Go.Proofs.YtopjjknojnfhmaaGreatDoor.Pl
