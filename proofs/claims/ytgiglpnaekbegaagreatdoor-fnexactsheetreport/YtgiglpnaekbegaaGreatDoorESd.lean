import Derived.Lib.ItoaLen
import Derived.Test.YtgiglpnaekbegaaGreatDoorEPr
import Derived.Test.YtgiglpnaekbegaaGreatDoorECs
import Derived.Test.YtgiglpnaekbegaaGreatDoorETx
namespace Go.Proofs.YtgiglpnaekbegaaGreatDoor.Pl
structure Ru where
 key:ByteArray
 args:List Int
 many:Bool
 dflt:List ByteArray
def kU:List Ru:=[⟨{data:=#[99,111,112,105,101,115]},[1],false,[{data:=#[49,48,48]}]⟩,⟨{data:=#[114,111,111,109]},[1],false,[{data:=#[49,48,48,48]}]⟩]
def j9:List Ru:=[⟨{data:=#[122,111,110,101]},[3],false,[{data:=#[122]}]⟩,⟨{data:=#[114,111,111,109]},[1],false,[{data:=#[49,48,48]}]⟩,⟨{data:=#[104,111,108,100]},[1],false,[{data:=#[49,48,48]}]⟩,⟨{data:=#[109,97,114,107]},[3],true,[]⟩]
def im:List Ru:=[⟨{data:=#[116,101,97,109]},[3],false,[{data:=#[99,111,114,101]}]⟩,⟨{data:=#[105,109,97,103,101]},[1],false,[{data:=#[49]}]⟩,⟨{data:=#[119,97,110,116]},[1],false,[{data:=#[49]}]⟩,⟨{data:=#[100,111,119,110]},[1],false,[{data:=#[49]}]⟩,⟨{data:=#[111,118,101,114]},[1],false,[{data:=#[48]}]⟩,⟨{data:=#[110,101,101,100,115]},[1,1],false,[{data:=#[49]},{data:=#[49]}]⟩,⟨{data:=#[119,104,101,114,101]},[4],false,[{data:=#[]}]⟩,⟨{data:=#[108,105,107,101]},[4,2],true,[]⟩,⟨{data:=#[97,112,97,114,116]},[6],false,[{data:=#[110,111,110,101]}]⟩,⟨{data:=#[118,111,108,117,109,101]},[5],false,[{data:=#[110,111]}]⟩,⟨{data:=#[102,111,108,108,111,119]},[1,1,1],false,[{data:=#[48]},{data:=#[48]},{data:=#[48]}]⟩,⟨{data:=#[112,97,99,101]},[1,1,1],false,[{data:=#[48]},{data:=#[48]},{data:=#[48]}]⟩]
def ah (s:ByteArray):List Ru:=
 if s.toList==[116,101,97,109] then kU
 else if s.toList==[98,101,114,116,104] then j9
 else if s.toList==[115,101,114,118,105,99,101] then im
 else []
theorem pL:gj {data:=#[49,48,48]}=[{data:=#[49,48,48]}]:=by rfl
theorem sZ:gj {data:=#[49,48,48,48]}=[{data:=#[49,48,48,48]}]:=by rfl
theorem rW:gj {data:=#[122]}=[{data:=#[122]}]:=by rfl
theorem qI:gj {data:=#[49,48,48]}=[{data:=#[49,48,48]}]:=by rfl
theorem r7:gj {data:=#[49,48,48]}=[{data:=#[49,48,48]}]:=by rfl
theorem oe:gj {data:=#[99,111,114,101]}=[{data:=#[99,111,114,101]}]:=by rfl
theorem nD:gj {data:=#[49]}=[{data:=#[49]}]:=by rfl
theorem ou:gj {data:=#[49]}=[{data:=#[49]}]:=by rfl
theorem oh:gj {data:=#[49]}=[{data:=#[49]}]:=by rfl
theorem oa:gj {data:=#[48]}=[{data:=#[48]}]:=by rfl
theorem nu:gj {data:=#[49,32,49]}=[{data:=#[49]},{data:=#[49]}]:=by rfl
theorem nk:gj {data:=#[]}=[{data:=#[]}]:=by rfl
theorem nf:gj {data:=#[110,111,110,101]}=[{data:=#[110,111,110,101]}]:=by rfl
theorem mr:gj {data:=#[110,111]}=[{data:=#[110,111]}]:=by rfl
theorem mF:gj {data:=#[48,32,48,32,48]}=[{data:=#[48]},{data:=#[48]},{data:=#[48]}]:=by rfl
theorem oM:gj {data:=#[48,32,48,32,48]}=[{data:=#[48]},{data:=#[48]},{data:=#[48]}]:=by rfl
end Go.Proofs.YtgiglpnaekbegaaGreatDoor.Pl
namespace Go.Proofs.YtgiglpnaekbegaaGreatDoor.Pl
theorem BS:∀ (k n:Nat),1≤k→n<10 ^ k→(Lib.decDigits n).length≤k
 |0,_,h,_=>by omega
 |1,n,_,h=>by rw[Lib.decDigits_one (by simpa using h)];simp
 |k+2,n,_,h=>by
  by_cases Et:n<10
  ·rw[Lib.decDigits_one Et];simp
  ·rw[Lib.decDigits,dif_neg Et,At,XN];have:n / 10<10 ^ (k+1):=by rw[Nat.pow_succ]at h;omega
   have:=BS (k+1) (n / 10) (by omega) this;omega
theorem vx:∀ (l:List UInt8),l.all digit=true→∀ a:Int,0≤a→a≤l.foldl (fun n c=>n*10+((c.toNat:Int) - 48)) a
 |[],_,a,_=>Int.le_refl _
 |c::l,h,a,ha=>by
  rw[YV,Xj]at h;have hc:=h.1;simp only[digit,Xj,decide_eq_true_eq]at hc;rw[List.foldl_cons];have:=vx l h.2 (a*10+((c.toNat:Int) - 48)) (by omega);omega
theorem Dc (l:List UInt8) (h:l.all digit=true):0≤bx l:=vx l h 0 (Int.le_refl _)
theorem zD (c:UInt8) (l:List UInt8) (h:(c::l).all digit=true) (hc:c≠48):1≤bx (c::l):=by
 rw[YV,Xj]at h;have h1:=h.1;simp only[digit,Xj,decide_eq_true_eq]at h1;have dr:c.toNat≠48:=fun e=>hc (YP.1 (by simpa using e));rw[bx,List.foldl_cons];have:=vx l h.2 (0*10+((c.toNat:Int) - 48)) (by omega);omega
theorem tV:∀ (l:List UInt8),l.all digit=true→∀ a:Int,0≤a→l.foldl (fun n c=>n*10+((c.toNat:Int) - 48)) a+1≤(a+1)*((10 ^ l.length:Nat):Int)
 |[],_,a,_=>by simp
 |c::l,h,a,ha=>by
  rw[YV,Xj]at h;have hc:=h.1;simp only[digit,Xj,decide_eq_true_eq]at hc;rw[List.foldl_cons,Xm,Nat.pow_succ];have:=tV l h.2 (a*10+((c.toNat:Int) - 48)) (by omega);refine Int.le_trans this ?_;rw[Nat.mul_comm,Int.natCast_mul,← Int.mul_assoc];exact Int.mul_le_mul_of_nonneg_right (by simp;omega) (Int.natCast_nonneg _)
theorem Bx:∀ (n:Nat) (l:List UInt8),l.length=n+1→l.all digit=true→(l.headD 0≠48∨l.length=1)→Lib.decDigits (bx l).toNat=l
 |0,l,hl,ha,_=>by
  obtain⟨c,rfl⟩:=List.length_eq_one_iff.1 hl;simp only[YV,List.all_nil,Bool.and_true,digit,Xj,decide_eq_true_eq]at ha;have e:(bx [c]).toNat=c.toNat - 48:=by simp[bx];omega
  rw[e,Lib.decDigits_one (by omega)];congr 1;apply YP.1;rw[UInt8.toNat_ofNat'];have:=yB c;omega
 |n+1,l,hl,ha,hh=>by
  have dr:l≠ []:=by intro e;rw[e]at hl;simp at hl
  obtain⟨l',c,rfl⟩:∃ l' c,l=l'++[c]:=⟨l.dropLast,l.getLast dr,(List.dropLast_concat_getLast dr).symm⟩
  rw[At,XN]at hl;rw[List.all_append,Xj]at ha;obtain⟨ha1,ha2⟩:=ha;simp only[YV,List.all_nil,Bool.and_true,digit,Xj,decide_eq_true_eq]at ha2;have hhd:l'.headD 0≠48:=by
   rcases hh with h|h
   ·cases l' with
    |nil=>simp at hl
    |cons d l''=>simpa using h
   ·rw[At,XN]at h;omega
  have ih:=Bx n l' (by omega) ha1 (No hhd);have hp:1≤bx l':=by
   cases l' with
   |nil=>simp at hl
   |cons d l''=>exact zD d l'' ha1 (by simpa using hhd)
  have e:(bx (l'++[c])).toNat=(bx l').toNat*10+(c.toNat - 48):=by rw[pB];omega
  rw[Lib.decDigits,dif_neg (by rw[e];omega)];have e1:(bx (l'++[c])).toNat / 10=(bx l').toNat:=by rw[e];omega
  have e2:(bx (l'++[c])).toNat % 10=c.toNat - 48:=by rw[e];omega
  rw[e1,e2,ih];congr 2;apply YP.1;rw[UInt8.toNat_ofNat'];have:=yB c;omega
theorem ES (c:UInt8) (l:List UInt8) (h:(48::c::l).all digit=true):Lib.decDigits (bx (48::c::l)).toNat≠48::c::l:=by
 intro e;have h2:(c::l).all digit=true:=by rw[YV,Xj]at h;exact h.2
 have e1:bx (48::c::l)=bx (c::l):=by rw[bx,List.foldl_cons];simp[bx]
 have bq:=tV (c::l) h2 0 (Int.le_refl _);have gF:=Dc (c::l) h2;have hb:(bx (c::l)).toNat<10 ^ (c::l).length:=by
  have:bx (c::l)+1≤((10 ^ (c::l).length:Nat):Int):=by simpa [bx]using bq
  omega
 have:=BS (c::l).length _ (by simp) hb;rw[← e1,e]at this;simp at this;omega
theorem NM (s:ByteArray) (h1:1≤s.size) (ha:s.data.toList.all digit=true):(Lib.decDigits (bx s.data.toList).toNat==s.data.toList)= !lead s:=by
 rw[lead,XB];have hl:=aD s;cases hd:s.data.toList with
 |nil=>rw[hd]at hl;simp at hl;omega
 |cons c l=>
  rw[hd]at hl ha;simp only[beq_iff_eq,Yw,Bool.and_eq_false_iff,decide_eq_false_iff_not,List.headD_cons,beq_eq_false_iff_ne,ne_eq];constructor
  ·intro e;by_cases hc:c=48
   ·subst hc;cases l with
    |nil=>left;rw[← hl];simp
    |cons d l=>exact absurd e (ES d l ha)
   ·exact Xk hc
  ·intro h;refine Bx l.length (c::l) (by simp) ha ?_;rcases h with h|h
   ·right;omega
   ·left;simpa using h
def ep (s:ByteArray):Bool:=eQ s&&decide (bx s.data.toList≤1000000)
def tK (s:ByteArray):Bool:=ep s||(decide (1<s.size)&&(s.data.toList.headD 0==45)&& !((s.extract 1 s.size).toList==[48])&&ep (s.extract 1 s.size))
def bE (s:ByteArray):Bool:=decide (1≤s.size)&&decide (s.size≤20)&&nameBytes s
def fA (t:Int) (s:ByteArray):Bool:=
 if t=1 then ep s
 else if t=2 then tK s
 else if t=3 then bE s
 else if t=5 then (s.toList==[121,101,115])||(s.toList==[110,111])
 else if t=6 then (s.toList==[110,111,110,101])||(s.toList==[98,101,114,116,104])||(s.toList==[122,111,110,101])
 else decide (s.size≤200)
def fp (key:ByteArray):List Ru→Nat→Option Nat
 |[],_=>none
 |r::l,j=>if r.key.toList==key.toList then some j else fp key l (j+1)
def bP (l:List Ru) (key:ByteArray):Option Nat:=fp key l 0
def bu:Ru:=⟨⟨#[]⟩,[],false,[]⟩
def ixI:Option Nat→Int
 |none=> -1
 |some j=>(j:Int)
theorem yC {l:List Ru} {key:ByteArray} {k:Nat} (hk:k<l.length) (h:bP l key=fp key (l.drop k) k) (hb:((l.getD k bu).key.toList==key.toList)=true):bP l key=some k:=by
 have e:l.getD k bu=l[k]:=by simp[hk]
 rw[h,XA hk,fp,← e,if_pos hb]
theorem ui {l:List Ru} {key:ByteArray} {k:Nat} (hk:k<l.length) (h:bP l key=fp key (l.drop k) k) (hb:((l.getD k bu).key.toList==key.toList)=false):bP l key=fp key (l.drop (k+1)) (k+1):=by
 have e:l.getD k bu=l[k]:=by simp[hk]
 rw[h,XA hk,fp,← e,hb];rfl
theorem yf {l:List Ru} {key:ByteArray} (h:bP l key=fp key (l.drop l.length) l.length):bP l key=none:=by
 rw[h,List.drop_length,fp]
theorem xN {key:ByteArray}:∀ (l:List Ru) (j k:Nat),fp key l j=some k→j≤k∧k<j+l.length
 |[],_,_,h=>by simp[fp]at h
 |r::l,j,k,h=>by
  rw[fp]at h;split at h
  ·injection h with h;subst h;simp
  ·have:=xN l (j+1) k h;simp only[Xm];omega
theorem iV {l:List Ru} {key:ByteArray} {k:Nat} (h:bP l key=some k):k<l.length:=by have:=xN l 0 k h;omega
def gO:List Int→List ByteArray→Bool
 |a::zs,w::ws=>fA a w&&gO zs ws
 |_,_=>true
def jH (args:List Int) (ws:List ByteArray):Bool:=decide (args.length=ws.length)&&gO args ws
theorem wU {zs:List Int} {ws:List ByteArray} {k:Nat} (h1:k<zs.length) (h2:k<ws.length):gO (zs.drop k) (ws.drop k)=(fA (zs.getD k 0) (ws.getD k ⟨#[]⟩)&&gO (zs.drop (k+1)) (ws.drop (k+1))):=by
 have e1:zs.getD k 0=zs[k]:=by simp[h1]
 have e2:ws.getD k ⟨#[]⟩=ws[k]:=by simp[h2]
 rw[XA h1,XA h2,gO,e1,e2]
def bH (kind key:ByteArray) (ws:List ByteArray):Bool:=match bP (ah kind) key with
 |none=>false
 |some j=>jH ((ah kind).getD j bu).args ws
end Go.Proofs.YtgiglpnaekbegaaGreatDoor.Pl
namespace Go.Proofs.YtgiglpnaekbegaaGreatDoor.Pl
def pM (a b:ByteArray):Bool:=Op.bytesLess a.toList b.toList
def eZ (a b:ByteArray):Bool:=a.toList==b.toList
def aJ:ByteArray:=⟨#[]⟩
structure Ln where
 key:ByteArray
 ws:List ByteArray
structure Bl where
 kind:ByteArray
 name:ByteArray
 lines:List Ln
def aK:Ln:=⟨aJ,[]⟩
def aG:Bl:=⟨aJ,aJ,[]⟩
def du:List ByteArray→List ByteArray→Bool
 |a::x,b::y=>if eZ a b then du x y else pM a b
 |x,y=>decide (x.length<y.length)
theorem EY {A B:List ByteArray} {k:Nat} (h1:k<A.length) (h2:k<B.length):du (A.drop k) (B.drop k)=if eZ (A.getD k aJ) (B.getD k aJ) then du (A.drop (k+1)) (B.drop (k+1)) else pM (A.getD k aJ) (B.getD k aJ):=by
 have e1:A.getD k aJ=A[k]:=by simp[h1]
 have e2:B.getD k aJ=B[k]:=by simp[h2]
 rw[XA h1,XA h2,du,e1,e2]
theorem tJ {A B:List ByteArray} {k:Nat} (D0:k≤A.length) (Aw:k≤B.length) (h:A.length≤k∨B.length≤k):du (A.drop k) (B.drop k)=decide (A.length<B.length):=by
 rcases h with h|h
 ·have e:A.drop k=[]:=Xz h;rw[e,du]
  ·rw[Xy,XB];simp;omega
  ·intro _ _ _ _ h;cases h
 ·have e:B.drop k=[]:=Xz h;rw[e,du]
  ·rw[Xy,XB];simp;omega
  ·intro _ _ _ _ _ h;cases h
def cL (a b:List ByteArray):Bool:= !du a b&& !du b a
def ez (kind key:ByteArray):Int:=ixI (bP (ah kind) key)
def aL (kind:ByteArray) (a b:Ln):Bool:=decide (ez kind a.key<ez kind b.key)||((ez kind a.key==ez kind b.key)&&du a.ws b.ws)
def jW (kind key:ByteArray):Bool:=match bP (ah kind) key with
 |none=>false
 |some j=>((ah kind).getD j bu).many
def aR (l:List Ln) (key:ByteArray):Nat:=l.countP fun x=>eZ x.key key
def kh (many:Bool) (n:Nat):Bool:= !((!many&&decide (1<n))||decide (10<n))
def eG (kind:ByteArray) (l:List Ln) (i:Nat):Bool:=bH kind (l.getD i aK).key (l.getD i aK).ws&&(decide (i=0)||aL kind (l.getD (i - 1) aK) (l.getD i aK))&&kh (jW kind (l.getD i aK).key) (aR (l.take (i+1)) (l.getD i aK).key)
def dA (kind:ByteArray) (l:List Ln):Bool:=(List.range l.length).all (eG kind l)
def ahead (a b:Bl):Bool:=pM a.kind b.kind||(eZ a.kind b.kind&&pM a.name b.name)
def dQ (s:List Bl) (i:Nat):Bool:= !decide ((ah (s.getD i aG).kind).length=0)&&bE (s.getD i aG).name&&dA (s.getD i aG).kind (s.getD i aG).lines&&(decide (i=0)||ahead (s.getD (i - 1) aG) (s.getD i aG))
def bw (s:List Bl):Bool:=decide (s.length≤60)&&(List.range s.length).all (dQ s)
theorem fO {p:Nat→Bool} {k:Nat} (h:(List.range k).all p=true) (hk:p k=true):(List.range (k+1)).all p=true:=by
 rw[List.range_succ,List.all_append,h];simp[hk]
theorem gA {p:Nat→Bool} {k n:Nat} (hk:k<n) (h:p k=false):(List.range n).all p=false:=by
 rw[List.all_eq_false];exact⟨k,XV.2 hk,by simp[h]⟩
end Go.Proofs.YtgiglpnaekbegaaGreatDoor.Pl
namespace Go.Proofs.YtgiglpnaekbegaaGreatDoor
set_option maxRecDepth 8000
set_option maxHeartbeats 40000000
open Go.RowKit Go.Deep
abbrev ao:List Sh:=[.s,.row 9 [.s]]
abbrev aq:List Sh:=[.s,.s,.row 41 ao]
abbrev ee:List Sh:=[.row 58 aq]
theorem vT {w:World} {tt:Bool} {F:List Nat} {a0:ByteArray} {n1:Nat} {e1:List Dt} {cs:List Value} (h:Rep w tt ao F [.s a0,.row n1 e1] cs):∃ F1 v1,F=F1++[]∧cs=[.string a0,v1]∧Rep w tt [.row 9 [.s]] F1 [.row n1 e1] [v1]:=by
 obtain⟨x0,rfl,h1⟩:=h.c_s;obtain⟨F1,G1,v1,x1,rfl,rfl,t1,h2⟩:=h1.c_r;obtain⟨rfl,rfl⟩:=h2.c_n;exact⟨F1,v1,rfl,rfl,t1⟩
theorem vK {w:World} {a0:ByteArray} {n1:Nat} {e1:List Dt} {cs:List Value} (h:Raw w ao [.s a0,.row n1 e1] cs):∃ v1,cs=[.string a0,v1]∧Raw w [.row 9 [.s]] [.row n1 e1] [v1]:=by
 obtain⟨x0,rfl,h1⟩:=h.c_s;obtain⟨v1,x1,rfl,t1,h2⟩:=h1.c_r;obtain rfl:=h2.c_n;exact⟨v1,rfl,t1⟩
theorem fE {w:World} {tt:Bool} (a0:ByteArray) {F1:List Nat} {n1:Nat} {e1:List Dt} {v1:Value} (h1:Rep w tt [.row 9 [.s]] F1 [.row n1 e1] [v1]):Rep w tt ao (F1++[]) [.s a0,.row n1 e1] [.string a0,v1]:=
 (.s a0 (h1.app .nil))
theorem jc {w:World} {tt:Bool} {F:List Nat} {a0:ByteArray} {a1:ByteArray} {n2:Nat} {e2:List Dt} {cs:List Value} (h:Rep w tt aq F [.s a0,.s a1,.row n2 e2] cs):∃ F2 v2,F=F2++[]∧cs=[.string a0,.string a1,v2]∧Rep w tt [.row 41 ao] F2 [.row n2 e2] [v2]:=by
 obtain⟨x0,rfl,h1⟩:=h.c_s;obtain⟨x1,rfl,h2⟩:=h1.c_s;obtain⟨F2,G2,v2,x2,rfl,rfl,t2,h3⟩:=h2.c_r;obtain⟨rfl,rfl⟩:=h3.c_n;exact⟨F2,v2,rfl,rfl,t2⟩
theorem lW {w:World} {a0:ByteArray} {a1:ByteArray} {n2:Nat} {e2:List Dt} {cs:List Value} (h:Raw w aq [.s a0,.s a1,.row n2 e2] cs):∃ v2,cs=[.string a0,.string a1,v2]∧Raw w [.row 41 ao] [.row n2 e2] [v2]:=by
 obtain⟨x0,rfl,h1⟩:=h.c_s;obtain⟨x1,rfl,h2⟩:=h1.c_s;obtain⟨v2,x2,rfl,t2,h3⟩:=h2.c_r;obtain rfl:=h3.c_n;exact⟨v2,rfl,t2⟩
theorem cT {w:World} {tt:Bool} (a0:ByteArray) (a1:ByteArray) {F2:List Nat} {n2:Nat} {e2:List Dt} {v2:Value} (h2:Rep w tt [.row 41 ao] F2 [.row n2 e2] [v2]):Rep w tt aq (F2++[]) [.s a0,.s a1,.row n2 e2] [.string a0,.string a1,v2]:=
 (.s a0 (.s a1 (h2.app .nil)))
theorem oF {w:World} (a0:ByteArray) (a1:ByteArray) {n2:Nat} {e2:List Dt} {v2:Value} (h2:Raw w [.row 41 ao] [.row n2 e2] [v2]):Raw w aq [.s a0,.s a1,.row n2 e2] [.string a0,.string a1,v2]:=
 (.s a0 (.s a1 (h2.app .nil)))
theorem ix {w:World} {tt:Bool} {F:List Nat} {n0:Nat} {e0:List Dt} {cs:List Value} (h:Rep w tt ee F [.row n0 e0] cs):∃ F0 v0,F=F0++[]∧cs=[v0]∧Rep w tt [.row 58 aq] F0 [.row n0 e0] [v0]:=by
 obtain⟨F0,G0,v0,x0,rfl,rfl,t0,h1⟩:=h.c_r;obtain⟨rfl,rfl⟩:=h1.c_n;exact⟨F0,v0,rfl,rfl,t0⟩
theorem jD {w:World} {n0:Nat} {e0:List Dt} {cs:List Value} (h:Raw w ee [.row n0 e0] cs):∃ v0,cs=[v0]∧Raw w [.row 58 aq] [.row n0 e0] [v0]:=by
 obtain⟨v0,x0,rfl,t0,h1⟩:=h.c_r;obtain rfl:=h1.c_n;exact⟨v0,rfl,t0⟩
theorem pg {w:World} {tt:Bool} {F0:List Nat} {n0:Nat} {e0:List Dt} {v0:Value} (h0:Rep w tt [.row 58 aq] F0 [.row n0 e0] [v0]):Rep w tt ee (F0++[]) [.row n0 e0] [v0]:=
 (h0.app .nil)
def lnD (x:Pl.Ln):List Dt:=[.s x.key,.row x.ws.length (txD x.ws)]
def bD (l:List Pl.Ln):Dt:=.row l.length (l.flatMap lnD)
def blD (b:Pl.Bl):List Dt:=[.s b.kind,.s b.name,bD b.lines]
def cq (s:List Pl.Bl):Dt:=.row s.length (s.flatMap blD)
theorem vh (x:Pl.Ln):(lnD x).length=2:=rfl
theorem nz (x:Pl.Bl):(blD x).length=3:=rfl
abbrev bm:List Sh:=[.row 9 [.s]]
abbrev aV:List Sh:=[.row 41 ao]
abbrev bL:List Sh:=[.row 58 aq]
theorem dK {W:World} {ws:List ByteArray} {v:Value} (h:Raw W bm [.row ws.length (txD ws)] [v]):(ws.length=0∧∃ a c,v=.slice a 0 c)∨∃ p o c,v=.slice (some ⟨p,o,none⟩) ws.length c∧p<W.heap.size∧ws.length≤maxLen∧∀ k,k<ws.length→W.cell? ⟨p,o+k,none⟩=some (.string (ws.getD k Pl.aJ)):=by
 rcases h.slice with⟨e0,_,a,c,e⟩|⟨p,o,c,hv,hp,dR,vs,hr,hR⟩
 ·exact No ⟨e0,a,c,e⟩
 ·refine Xk ⟨p,o,c,hv,hp,dR.1,fun k hk=> ?_⟩;obtain⟨ve,hE,hg⟩:=hR.el hk hr;have e:el ([Sh.s]:List Sh).length k (txD ws)=[.s (ws.getD k Pl.aJ)]:=nI Pl.aJ Dt.s ws k hk;rw[e]at hE;obtain rfl:=EX hE;have:=aF hg 0 _ rfl;simpa using this
theorem bO {W:World} {l:List Pl.Ln} {v:Value} (h:Raw W aV [bD l] [v]):(l.length=0∧∃ a c,v=.slice a 0 c)∨∃ p o c,v=.slice (some ⟨p,o,none⟩) l.length c∧p<W.heap.size∧l.length≤maxLen∧∀ k,k<l.length→∃ a c',W.rangeAt p (o+k*2) [.string (l.getD k Pl.aK).key,.slice a (l.getD k Pl.aK).ws.length c']∧Raw W bm [.row (l.getD k Pl.aK).ws.length (txD (l.getD k Pl.aK).ws)] [.slice a (l.getD k Pl.aK).ws.length c']:=by
 rcases h.slice with⟨e0,_,a,c,e⟩|⟨p,o,c,hv,hp,dR,vs,hr,hR⟩
 ·exact No ⟨e0,a,c,e⟩
 ·refine Xk ⟨p,o,c,hv,hp,dR.1,fun k hk=> ?_⟩;obtain⟨ve,hE,hg⟩:=hR.el hk hr;have e:el ao.length k (l.flatMap lnD)=lnD (l.getD k Pl.aK):=jT Pl.aK lnD 2 vh l k hk;rw[e]at hE;obtain⟨v1,hc,r1⟩:=vK hE;subst hc;obtain⟨a1,c1,h1⟩:=r1.aT;subst h1;exact⟨a1,c1,hg,r1⟩
theorem cN {W:World} {s:List Pl.Bl} {v:Value} (h:Raw W bL [cq s] [v]):(s.length=0∧∃ a c,v=.slice a 0 c)∨∃ p o c,v=.slice (some ⟨p,o,none⟩) s.length c∧p<W.heap.size∧s.length≤maxLen∧∀ k,k<s.length→∃ a c',W.rangeAt p (o+k*3) [.string (s.getD k Pl.aG).kind,.string (s.getD k Pl.aG).name,.slice a (s.getD k Pl.aG).lines.length c']∧Raw W aV [bD (s.getD k Pl.aG).lines] [.slice a (s.getD k Pl.aG).lines.length c']:=by
 rcases h.slice with⟨e0,_,a,c,e⟩|⟨p,o,c,hv,hp,dR,vs,hr,hR⟩
 ·exact No ⟨e0,a,c,e⟩
 ·refine Xk ⟨p,o,c,hv,hp,dR.1,fun k hk=> ?_⟩;obtain⟨ve,hE,hg⟩:=hR.el hk hr;have e:el aq.length k (s.flatMap blD)=blD (s.getD k Pl.aG):=jT Pl.aG blD 3 nz s k hk;rw[e]at hE;obtain⟨v1,hc,r1⟩:=lW hE;subst hc;obtain⟨a1,c1,h1⟩:=r1.aT;subst h1;exact⟨a1,c1,hg,r1⟩
end Go.Proofs.YtgiglpnaekbegaaGreatDoor
