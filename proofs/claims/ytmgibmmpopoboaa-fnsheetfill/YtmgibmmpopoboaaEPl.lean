import Derived.Test.YtmgibmmpopoboaaPlain
namespace Go.Proofs.Ytmgibmmpopoboaa.Pl
theorem l7 (l:List UInt8) (c:UInt8):bu (l++[c])=bu l*10+((c.toNat:Int) - 48):=by
 simp[bu,List.foldl_append]
theorem iR (s:ByteArray) (k:Nat) (h:k<s.size):bu (s.data.toList.take (k+1))=bu (s.data.toList.take k)*10+((s[k].toNat:Int) - 48):=by
 rw[pC s k h,l7]
theorem wW (s:ByteArray) (k:Nat) (hk:k≤s.size) (h:(s.data.toList.take k).all digit=true):
  0≤bu (s.data.toList.take k)∧bu (s.data.toList.take k)+1≤((10 ^ k:Nat):Int):=by
 induction k with
 |zero=>simp[bu]
 |succ k ih=>
  have bN:k<s.size:=by omega
  rw[iQ _ _ _ bN]at h;simp only[Bool.and_eq_true]at h;obtain⟨ha,hb⟩:=h;have ih':=ih (by omega) ha;rw[iR s k bN,Nat.pow_succ];simp only[digit,Bool.and_eq_true,decide_eq_true_eq]at hb;omega
theorem kO (s:ByteArray) (k:Nat) (hk:k≤s.size) (h7:k≤7) (h:(s.data.toList.take k).all digit=true):
  0≤bu (s.data.toList.take k)∧bu (s.data.toList.take k)≤9999999:=by
 have hb:=wW s k hk h;have:10 ^ k≤10 ^ 7:=Nat.pow_le_pow_right (by omega) h7;omega
theorem qo (s:ByteArray) (h:0<s.size):s.data.toList.headD 0=s[0]:=by
 have:s.data.toList≠ []:=by
  intro e;have:s.size=0:=by
   have:=congrArg List.length e;simpa using this
  omega
 rw[List.headD_eq_head?_getD,List.head?_eq_some_head this];simp[List.head_eq_getElem];rfl
theorem vC (s:ByteArray) (h:0<s.size):lead s=(decide (1<s.size)&&(s[0]==48)):=by
 rw[lead,qo s h]
theorem na (c d:UInt8):(c==d)=((c.toNat:Int)==(d.toNat:Int)):=by
 rw[Bool.eq_iff_iff];simp[← UInt8.toNat_inj];omega
theorem tl (s:ByteArray):s.toList=s.data.toList:=ByteArray.toList_eq s
theorem dY (s:ByteArray):s.data.toList.length=s.size:=Array.length_toList
theorem sD (s:ByteArray) (h:1≤s.size):s.toList.isEmpty=false:=by
 rw[tl];rw[← dY]at h;revert h
 cases s.data.toList with
 |nil=>intro h;exact absurd h (by decide)
 |cons a l=>intro _;rfl
theorem xr (s:ByteArray) (h:¬ 1≤s.size):s.toList.isEmpty=true:=by
 rw[tl];rw[← dY]at h;revert h
 cases s.data.toList with
 |nil=>intro _;rfl
 |cons a l=>intro h;exact absurd (Nat.succ_le_succ (Nat.zero_le l.length)) h
theorem yQ (s:ByteArray) (h:s.size=1) (c:UInt8) (hc:s.data.toList.headD 0=c):(s.toList==[c])=true:=by
 rw[tl];have h':s.data.toList.length=1:=by rw[dY];exact h
 obtain⟨a,ha⟩:=List.length_eq_one_iff.1 h';rw[ha]at hc ⊢;simpa using hc
theorem uf (s:ByteArray) (h:1<s.size) (c:UInt8):(s.toList==[c])=false:=by
 rw[tl,beq_eq_false_iff_ne];intro e;have:=congrArg List.length e;rw[dY]at this;have e1:[c].length=1:=rfl;omega
end Go.Proofs.Ytmgibmmpopoboaa.Pl
namespace Go.Proofs.Ytmgibmmpopoboaa.Pl
theorem back (s:ByteArray):(⟨s.data.toList.toArray⟩:ByteArray)=s:=by simp
theorem IG (c:UInt8):c.toNat<256:=c.toNat_lt
theorem vj (s:ByteArray) (k:Nat) (h:k<s.size):s.data.toList.drop k=s[k]::s.data.toList.drop (k+1):=by
 rw[List.drop_eq_getElem_cons (by rw[dY];exact h)];rfl
theorem yU (s:ByteArray) (k:Nat):(s.data.toList.drop k).length=s.size - k:=by rw[List.length_drop,dY]
end Go.Proofs.Ytmgibmmpopoboaa.Pl
