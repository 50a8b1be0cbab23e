import Derived.Lib.ItoaLen
import Derived.Test.YtmgibmmpopoboaaEPu
namespace Go.Proofs.Ytmgibmmpopoboaa.Pl
theorem qi:∀ (k n:Nat),1≤k→n<10 ^ k→(Lib.decDigits n).length≤k
 |0,_,h,_=>by omega
 |1,n,_,h=>by rw[Lib.decDigits_one (by simpa using h)];simp
 |k+2,n,_,h=>by
  by_cases h10:n<10
  ·rw[Lib.decDigits_one h10];simp
  ·rw[Lib.decDigits,dif_neg h10,List.length_append,List.length_singleton];have:n / 10<10 ^ (k+1):=by rw[Nat.pow_succ]at h;omega
   have:=qi (k+1) (n / 10) (by omega) this;omega
theorem qc:∀ (l:List UInt8),l.all digit=true→∀ a:Int,0≤a→a≤l.foldl (fun n c=>n*10+((c.toNat:Int) - 48)) a
 |[],_,a,_=>Int.le_refl _
 |c::l,h,a,ha=>by
  rw[List.all_cons,Bool.and_eq_true]at h;have hc:=h.1;simp only[digit,Bool.and_eq_true,decide_eq_true_eq]at hc;rw[List.foldl_cons];have:=qc l h.2 (a*10+((c.toNat:Int) - 48)) (by omega);omega
theorem wL (l:List UInt8) (h:l.all digit=true):0≤bu l:=qc l h 0 (Int.le_refl _)
theorem tJ (c:UInt8) (l:List UInt8) (h:(c::l).all digit=true) (hc:c≠48):1≤bu (c::l):=by
 rw[List.all_cons,Bool.and_eq_true]at h;have h1:=h.1;simp only[digit,Bool.and_eq_true,decide_eq_true_eq]at h1;have iM:c.toNat≠48:=fun e=>hc (UInt8.toNat_inj.1 (by simpa using e));rw[bu,List.foldl_cons];have:=qc l h.2 (0*10+((c.toNat:Int) - 48)) (by omega);omega
theorem pq:∀ (l:List UInt8),l.all digit=true→∀ a:Int,0≤a→l.foldl (fun n c=>n*10+((c.toNat:Int) - 48)) a+1≤(a+1)*((10 ^ l.length:Nat):Int)
 |[],_,a,_=>by simp
 |c::l,h,a,ha=>by
  rw[List.all_cons,Bool.and_eq_true]at h;have hc:=h.1;simp only[digit,Bool.and_eq_true,decide_eq_true_eq]at hc;rw[List.foldl_cons,List.length_cons,Nat.pow_succ];have:=pq l h.2 (a*10+((c.toNat:Int) - 48)) (by omega);refine Int.le_trans this ?_;rw[Nat.mul_comm,Int.natCast_mul,← Int.mul_assoc];exact Int.mul_le_mul_of_nonneg_right (by simp;omega) (Int.natCast_nonneg _)
theorem vE:∀ (n:Nat) (l:List UInt8),l.length=n+1→l.all digit=true→(l.headD 0≠48∨l.length=1)→Lib.decDigits (bu l).toNat=l
 |0,l,hl,ha,_=>by
  obtain⟨c,rfl⟩:=List.length_eq_one_iff.1 hl;simp only[List.all_cons,List.all_nil,Bool.and_true,digit,Bool.and_eq_true,decide_eq_true_eq]at ha;have e:(bu [c]).toNat=c.toNat - 48:=by simp[bu];omega
  rw[e,Lib.decDigits_one (by omega)];congr 1;apply UInt8.toNat_inj.1;rw[UInt8.toNat_ofNat'];have:=IG c;omega
 |n+1,l,hl,ha,hh=>by
  have iM:l≠ []:=by intro e;rw[e]at hl;simp at hl
  obtain⟨l',c,rfl⟩:∃ l' c,l=l'++[c]:=⟨l.dropLast,l.getLast iM,(List.dropLast_concat_getLast iM).symm⟩
  rw[List.length_append,List.length_singleton]at hl;rw[List.all_append,Bool.and_eq_true]at ha;obtain⟨Ks,MK⟩:=ha;simp only[List.all_cons,List.all_nil,Bool.and_true,digit,Bool.and_eq_true,decide_eq_true_eq]at MK;have hhd:l'.headD 0≠48:=by
   rcases hh with h|h
   ·cases l' with
    |nil=>simp at hl
    |cons d l''=>simpa using h
   ·rw[List.length_append,List.length_singleton]at h;omega
  have ih:=vE n l' (by omega) Ks (Or.inl hhd);have hp:1≤bu l':=by
   cases l' with
   |nil=>simp at hl
   |cons d l''=>exact tJ d l'' Ks (by simpa using hhd)
  have e:(bu (l'++[c])).toNat=(bu l').toNat*10+(c.toNat - 48):=by rw[l7];omega
  rw[Lib.decDigits,dif_neg (by rw[e];omega)];have e1:(bu (l'++[c])).toNat / 10=(bu l').toNat:=by rw[e];omega
  have e2:(bu (l'++[c])).toNat % 10=c.toNat - 48:=by rw[e];omega
  rw[e1,e2,ih];congr 2;apply UInt8.toNat_inj.1;rw[UInt8.toNat_ofNat'];have:=IG c;omega
theorem AN (c:UInt8) (l:List UInt8) (h:(48::c::l).all digit=true):Lib.decDigits (bu (48::c::l)).toNat≠48::c::l:=by
 intro e;have h2:(c::l).all digit=true:=by rw[List.all_cons,Bool.and_eq_true]at h;exact h.2
 have e1:bu (48::c::l)=bu (c::l):=by rw[bu,List.foldl_cons];simp[bu]
 have bN:=pq (c::l) h2 0 (Int.le_refl _);have eD:=wL (c::l) h2;have hb:(bu (c::l)).toNat<10 ^ (c::l).length:=by
  have:bu (c::l)+1≤((10 ^ (c::l).length:Nat):Int):=by simpa [bu]using bN
  omega
 have:=qi (c::l).length _ (by simp) hb;rw[← e1,e]at this;simp at this;omega
theorem FP (s:ByteArray) (h1:1≤s.size) (ha:s.data.toList.all digit=true):(Lib.decDigits (bu s.data.toList).toNat==s.data.toList)= !lead s:=by
 rw[lead,Bool.eq_iff_iff];have hl:=dY s;cases hd:s.data.toList with
 |nil=>rw[hd]at hl;simp at hl;omega
 |cons c l=>
  rw[hd]at hl ha;simp only[beq_iff_eq,Bool.not_eq_true',Bool.and_eq_false_iff,decide_eq_false_iff_not,List.headD_cons,beq_eq_false_iff_ne,ne_eq];constructor
  ·intro e;by_cases hc:c=48
   ·subst hc;cases l with
    |nil=>left;rw[← hl];simp
    |cons d l=>exact absurd e (AN d l ha)
   ·exact Or.inr hc
  ·intro h;refine vE l.length (c::l) (by simp) ha ?_;rcases h with h|h
   ·right;omega
   ·left;simpa using h
def di (s:ByteArray):Bool:=dC s&&decide (bu s.data.toList≤1000000)
def pn (s:ByteArray):Bool:=di s||(decide (1<s.size)&&(s.data.toList.headD 0==45)&& !((s.extract 1 s.size).toList==[48])&&di (s.extract 1 s.size))
def cd (s:ByteArray):Bool:=decide (1≤s.size)&&decide (s.size≤20)&&nameBytes s
def dW (t:Int) (s:ByteArray):Bool:=
 if t=1 then di s
 else if t=2 then pn s
 else if t=3 then cd s
 else if t=5 then (s.toList==[121,101,115])||(s.toList==[110,111])
 else if t=6 then (s.toList==[110,111,110,101])||(s.toList==[98,101,114,116,104])||(s.toList==[122,111,110,101])
 else decide (s.size≤200)
def eK (key:ByteArray):List Ru→Nat→Option Nat
 |[],_=>none
 |r::l,j=>if r.key.toList==key.toList then some j else eK key l (j+1)
def bJ (l:List Ru) (key:ByteArray):Option Nat:=eK key l 0
def aO:Ru:=⟨⟨#[]⟩,[],false,[]⟩
def ixI:Option Nat→Int
 |none=> -1
 |some j=>(j:Int)
theorem sA {l:List Ru} {key:ByteArray} {k:Nat} (hk:k<l.length) (h:bJ l key=eK key (l.drop k) k) (hb:((l.getD k aO).key.toList==key.toList)=true):bJ l key=some k:=by
 have e:l.getD k aO=l[k]:=by simp[hk]
 rw[h,List.drop_eq_getElem_cons hk,eK,← e,if_pos hb]
theorem pQ {l:List Ru} {key:ByteArray} {k:Nat} (hk:k<l.length) (h:bJ l key=eK key (l.drop k) k) (hb:((l.getD k aO).key.toList==key.toList)=false):bJ l key=eK key (l.drop (k+1)) (k+1):=by
 have e:l.getD k aO=l[k]:=by simp[hk]
 rw[h,List.drop_eq_getElem_cons hk,eK,← e,hb];rfl
theorem sL {l:List Ru} {key:ByteArray} (h:bJ l key=eK key (l.drop l.length) l.length):bJ l key=none:=by
 rw[h,List.drop_length,eK]
theorem sO {key:ByteArray}:∀ (l:List Ru) (j k:Nat),eK key l j=some k→j≤k∧k<j+l.length
 |[],_,_,h=>by simp[eK]at h
 |r::l,j,k,h=>by
  rw[eK]at h;split at h
  ·injection h with h;subst h;simp
  ·have:=sO l (j+1) k h;simp only[List.length_cons];omega
theorem fm {l:List Ru} {key:ByteArray} {k:Nat} (h:bJ l key=some k):k<l.length:=by have:=sO l 0 k h;omega
def fu:List Int→List ByteArray→Bool
 |a::zs,w::ws=>dW a w&&fu zs ws
 |_,_=>true
def gD (args:List Int) (ws:List ByteArray):Bool:=decide (args.length=ws.length)&&fu args ws
theorem rI {zs:List Int} {ws:List ByteArray} {k:Nat} (h1:k<zs.length) (h2:k<ws.length):fu (zs.drop k) (ws.drop k)=(dW (zs.getD k 0) (ws.getD k ⟨#[]⟩)&&fu (zs.drop (k+1)) (ws.drop (k+1))):=by
 have e1:zs.getD k 0=zs[k]:=by simp[h1]
 have e2:ws.getD k ⟨#[]⟩=ws[k]:=by simp[h2]
 rw[List.drop_eq_getElem_cons h1,List.drop_eq_getElem_cons h2,fu,e1,e2]
def bU (kind key:ByteArray) (ws:List ByteArray):Bool:=match bJ (aj kind) key with
 |none=>false
 |some j=>gD ((aj kind).getD j aO).args ws
end Go.Proofs.Ytmgibmmpopoboaa.Pl
