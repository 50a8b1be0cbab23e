import Derived.Test.YtgiglpnaekbegaaGreatDoorPlain
namespace Go.Proofs.YtgiglpnaekbegaaGreatDoor.Pl
theorem pB (l:List UInt8) (c:UInt8):bx (l++[c])=bx l*10+((c.toNat:Int) - 48):=by
 simp[bx,List.foldl_append]
theorem kW (s:ByteArray) (k:Nat) (h:k<s.size):bx (s.data.toList.take (k+1))=bx (s.data.toList.take k)*10+((s[k].toNat:Int) - 48):=by
 rw[lr s k h,pB]
theorem CP (s:ByteArray) (k:Nat) (hk:k≤s.size) (h:(s.data.toList.take k).all digit=true):
  0≤bx (s.data.toList.take k)∧bx (s.data.toList.take k)+1≤((10 ^ k:Nat):Int):=by
 induction k with
 |zero=>simp[bx]
 |succ k ih=>
  have bq:k<s.size:=by omega
  rw[jI _ _ _ bq]at h;simp only[Xj]at h;obtain⟨ha,hb⟩:=h;have ih':=ih (by omega) ha;rw[kW s k bq,Nat.pow_succ];simp only[digit,Xj,decide_eq_true_eq]at hb;omega
theorem nF (s:ByteArray) (k:Nat) (hk:k≤s.size) (h7:k≤7) (h:(s.data.toList.take k).all digit=true):
  0≤bx (s.data.toList.take k)∧bx (s.data.toList.take k)≤9999999:=by
 have hb:=CP s k hk h;have:10 ^ k≤10 ^ 7:=Nat.pow_le_pow_right (by omega) h7;omega
theorem p7 (s:ByteArray) (h:0<s.size):s.data.toList.headD 0=s[0]:=by
 have:s.data.toList≠ []:=by
  intro e;have:s.size=0:=by
   have:=congrArg List.length e;simpa using this
  omega
 rw[List.headD_eq_head?_getD,List.head?_eq_some_head this];simp[List.head_eq_getElem];rfl
theorem BO (s:ByteArray) (h:0<s.size):lead s=(decide (1<s.size)&&(s[0]==48)):=by
 rw[lead,p7 s h]
theorem rE (c d:UInt8):(c==d)=((c.toNat:Int)==(d.toNat:Int)):=by
 rw[XB];simp[← UInt8.toNat_inj];omega
theorem tl (s:ByteArray):s.toList=s.data.toList:=ByteArray.toList_eq s
theorem aD (s:ByteArray):s.data.toList.length=s.size:=Yk
theorem gK (s:ByteArray) (h:1≤s.size):s.toList.isEmpty=false:=by
 rw[tl];rw[← aD]at h;revert h
 cases s.data.toList with
 |nil=>intro h;exact absurd h (by decide)
 |cons a l=>intro _;rfl
theorem gz (s:ByteArray) (h:¬ 1≤s.size):s.toList.isEmpty=true:=by
 rw[tl];rw[← aD]at h;revert h
 cases s.data.toList with
 |nil=>intro _;rfl
 |cons a l=>intro h;exact absurd (Nat.succ_le_succ (Nat.zero_le l.length)) h
theorem EL (s:ByteArray) (h:s.size=1) (c:UInt8) (hc:s.data.toList.headD 0=c):(s.toList==[c])=true:=by
 rw[tl];have h':s.data.toList.length=1:=by rw[aD];exact h
 obtain⟨a,ha⟩:=List.length_eq_one_iff.1 h';rw[ha]at hc ⊢;simpa using hc
theorem zZ (s:ByteArray) (h:1<s.size) (c:UInt8):(s.toList==[c])=false:=by
 rw[tl,beq_eq_false_iff_ne];intro e;have:=congrArg List.length e;rw[aD]at this;have e1:[c].length=1:=rfl;omega
end Go.Proofs.YtgiglpnaekbegaaGreatDoor.Pl
namespace Go.Proofs.YtgiglpnaekbegaaGreatDoor.Pl
def ck (c:UInt8):Bool:=decide (33≤c.toNat)&&decide (c.toNat≤126)&&(c.toNat !=34)&&(c.toNat !=35)&&(c.toNat !=92)
def gl (c:UInt8):Bool:=decide (32≤c.toNat)&&decide (c.toNat≤126)&&(c.toNat !=34)&&(c.toNat !=92)
def fu (n:Nat):UInt8:=if n<10 then UInt8.ofNat (48+n) else UInt8.ofNat (87+n)
def fU (c:UInt8):List UInt8:=if gl c then [c] else [92,fu (c.toNat / 16),fu (c.toNat % 16)]
def pt (l:List UInt8):Bool:=decide (0<l.length)&&l.all ck
def jC (l:List UInt8):List UInt8:=if pt l then l else 34::(l.flatMap fU++[34])
def cK (s:ByteArray):ByteArray:=⟨(jC s.data.toList).toArray⟩
theorem EN (c:UInt8):(fU c).length≤3:=by unfold fU;split<;>simp
theorem p8:∀ l:List UInt8,(l.flatMap fU).length≤3*l.length
 |[]=>by simp
 |c::l=>by rw[XP,At,Xm];have:=EN c;have:=p8 l;omega
theorem back (s:ByteArray):(⟨s.data.toList.toArray⟩:ByteArray)=s:=by simp
theorem nH {a b:ByteArray} (h:a=b):Ending.returned (.string a)=.returned (.string b):=by rw[h]
def byV (l:List UInt8):List Value:=l.map fun c=> .int .u8 (c.toNat:Int)
theorem vj (a b:List UInt8):byV (a++b)=byV a++byV b:=Yr
theorem BZ (a:List UInt8):(byV a).length=a.length:=XT ..
theorem yB (c:UInt8):c.toNat<256:=c.toNat_lt
def cm (c:UInt8):Int:=if 48≤c.toNat∧c.toNat≤57 then (c.toNat:Int) - 48 else if 97≤c.toNat∧c.toNat≤102 then (c.toNat:Int) - 87 else -1
theorem qh (c:UInt8): -1≤cm c∧cm c≤15:=by unfold cm;split<;>(try split)<;>omega
def dz:List UInt8→Option (List UInt8×Nat)
 |[]=>none
 |c::l=>
  if c.toNat=34 then some ([],1)
  else if c.toNat=92 then
   if 2≤l.length∧0≤cm (l.getD 0 0)∧0≤cm (l.getD 1 0) then (dz (l.drop 2)).map (fun p=>(UInt8.ofNat (16*cm (l.getD 0 0)+cm (l.getD 1 0)).toNat::p.1,p.2+3)) else none
  else if 32≤c.toNat∧c.toNat≤126 then (dz l).map (fun p=>(c::p.1,p.2+1))
  else none
termination_by l=>l.length
decreasing_by all_goals simp_all<;>omega
def ko (l:List UInt8):List UInt8×Nat:=(dz l).getD ([],0)
theorem dB (s:ByteArray) (k:Nat) (h:k<s.size):s.data.toList.drop k=s[k]::s.data.toList.drop (k+1):=by
 rw[XA (by rw[aD];exact h)];rfl
theorem qV:∀ (n:Nat) (l:List UInt8),l.length≤n→∀ x m,dz l=some (x,m)→x.length+1≤m∧m≤l.length
 |0,[],_,x,m,h=>by simp[dz]at h
 |n+1,[],_,x,m,h=>by simp[dz]at h
 |n+1,c::l,hl,x,m,h=>by
  rw[dz]at h;simp only[Xm]at hl ⊢;split at h
  ·simp only[Option.some.injEq,Prod.mk.injEq]at h;obtain⟨rfl,rfl⟩:=h;simp
  ·split at h
   ·split at h
    ·obtain⟨⟨y,k⟩,h1,h2⟩:=XH.1 h;simp only[Prod.mk.injEq]at h2;obtain⟨rfl,rfl⟩:=h2;have:=qV n (l.drop 2) (by rw[Xy];omega) y k h1;rw[Xy]at this;simp only[Xm];omega
    ·cases h
   ·split at h
    ·obtain⟨⟨y,k⟩,h1,h2⟩:=XH.1 h;simp only[Prod.mk.injEq]at h2;obtain⟨rfl,rfl⟩:=h2;have:=qV n l (by omega) y k h1;simp only[Xm];omega
    ·cases h
theorem eF (s:ByteArray) (k:Nat):(s.data.toList.drop k).length=s.size - k:=by rw[Xy,aD]
theorem uD (s:ByteArray) (k j:Nat) (h:k+j<s.size):(s.data.toList.drop k).getD j 0=s[k+j]:=by
 have:k+j<s.data.toList.length:=by rw[aD];exact h
 rw[Yf,List.getElem?_drop,YC this];rfl
theorem QZ (s:ByteArray) (k:Nat) (h:k<s.size) (h1:s[k].toNat=34):dz (s.data.toList.drop k)=some ([],1):=by
 rw[dB s k h,dz,if_pos h1]
theorem NZ (s:ByteArray) (k:Nat) (h:k<s.size) (h1:s[k].toNat=92) (h2:¬ k+2<s.size):dz (s.data.toList.drop k)=none:=by
 rw[dB s k h,dz,if_neg (by omega),if_pos h1,if_neg (by rw[eF];omega)]
theorem NL (s:ByteArray) (k:Nat) (h:k<s.size) (h1:s[k].toNat=92) (h2:k+2<s.size) (hx:cm s[k+1]<0∨cm s[k+2]<0):dz (s.data.toList.drop k)=none:=by
 have e1:=uD s (k+1) 0 (by omega);have e2:=uD s (k+1) 1 (by omega);simp only[Nat.add_zero,Nat.add_assoc]at e1 e2;rw[dB s k h,dz,if_neg (by omega),if_pos h1,e1,e2,if_neg];rintro⟨_,q1,q2⟩;have e3:cm s[k+(1+1)]=cm s[k+2]:=rfl;omega
theorem QL (s:ByteArray) (k:Nat) (h:k<s.size) (h1:s[k].toNat=92) (h2:k+2<s.size) (x1:0≤cm s[k+1]) (x2:0≤cm s[k+2]):
  dz (s.data.toList.drop k)=(dz (s.data.toList.drop (k+3))).map (fun p=>(UInt8.ofNat (16*cm s[k+1]+cm s[k+2]).toNat::p.1,p.2+3)):=by
 have e1:=uD s (k+1) 0 (by omega);have e2:=uD s (k+1) 1 (by omega);simp only[Nat.add_zero,Nat.add_assoc]at e1 e2;rw[dB s k h,dz,if_neg (by omega),if_pos h1,e1,e2,if_pos ⟨by rw[eF];omega,x1,x2⟩,YS]
theorem TW (s:ByteArray) (k:Nat) (h:k<s.size) (h1:s[k].toNat≠34) (h2:s[k].toNat≠92) (h3:32≤s[k].toNat∧s[k].toNat≤126):
  dz (s.data.toList.drop k)=(dz (s.data.toList.drop (k+1))).map (fun p=>(s[k]::p.1,p.2+1)):=by
 rw[dB s k h,dz,if_neg h1,if_neg h2,if_pos h3]
theorem T6 (s:ByteArray) (k:Nat) (h:k<s.size) (h1:s[k].toNat≠34) (h2:s[k].toNat≠92) (h3:¬ (32≤s[k].toNat∧s[k].toNat≤126)):dz (s.data.toList.drop k)=none:=by
 rw[dB s k h,dz,if_neg h1,if_neg h2,if_neg h3]
theorem Uc (s:ByteArray):dz (s.data.toList.drop s.size)=none:=by
 rw[Xz (by rw[aD];exact zE),dz]
theorem QD {l d d':List UInt8} {O:List UInt8} {k n:Nat} {c:UInt8} (h:dz l=(dz d).map fun p=>(O++p.1,k+p.2)) (h':dz d=(dz d').map fun p=>(c::p.1,p.2+n)):dz l=(dz d').map fun p=>((O++[c])++p.1,(k+n)+p.2):=by
 rw[h,h',Option.map_map];congr 1;funext p
 simp only[Function.comp,Prod.mk.injEq];exact⟨by simp,by omega⟩
end Go.Proofs.YtgiglpnaekbegaaGreatDoor.Pl
