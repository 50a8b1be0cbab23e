import Derived.Test.YtbiokpmdghmgcaaGreatMemT
import Derived.Test.YtbiokpmdghmgcaaGreatPlainC
namespace Go.Proofs.YtbiokpmdghmgcaaGreat
open Go.RowKit Go.Deep
namespace Pl
theorem kt {s:ByteArray} (h:aq s=true):s.toList.isEmpty=false:=by
 simp only[aq,Bool.and_eq_true,decide_eq_true_eq]at h;exact fI s h.1.1
end Pl
def bM:List Tm→ByteArray→ByteArray
 |[],_=>ByteArray.empty
 |t::ts,n=>if (t.nm.toList==n.toList)=true then t.ov else bM ts n
theorem pC (ts:List Tm) (n:ByteArray) (k:Nat) (hk:k<ts.length):
  bM (ts.drop k) n=if ((ts.getD k Tm.none).nm.toList==n.toList)=true then (ts.getD k Tm.none).ov else bM (ts.drop (k+1)) n:=by
 have e:ts.getD k Tm.none=ts[k]:=by simp[hk]
 rw[List.drop_eq_getElem_cons hk,e,bM]
theorem nX (ts:List Tm) (n:ByteArray) (k:Nat) (hk:ts.length≤k):bM (ts.drop k) n=ByteArray.empty:=by
 rw[List.drop_of_length_le hk,bM]
def lS (ts:List Tm):Nat→ByteArray→ByteArray→Bool
 |0,_,_=>false
 |k+1,a,b=>if Pl.aE (bM ts a)=true then false else if ((bM ts a).toList==b.toList)=true then true else lS ts k (bM ts a) b
def under (ts:List Tm) (a b:ByteArray):Bool:=(a.toList==b.toList)||lS ts 4 a b
def high (ts:List Tm):Nat→ByteArray→Bool
 |0,_=>false
 |k+1,a=>if Pl.aE (bM ts a)=true then true else high ts k (bM ts a)
def bA (ts:List Tm) (n:ByteArray):Bool:=ts.any (fun t=>t.nm.toList==n.toList)
def k8 (ts:List Tm) (i:Nat):Bool:=
 Pl.aq (ts.getD i Tm.none).nm&&(decide (i=0)||Pl.less (ts.getD (i - 1) Tm.none).nm (ts.getD i Tm.none).nm)&&(Pl.aE (ts.getD i Tm.none).ov||bA ts (ts.getD i Tm.none).ov)&&high ts 5 (ts.getD i Tm.none).nm
def eK (ts:List Tm) (k:Nat):Bool:=(List.range k).all (k8 ts)
def dG (ts:List Tm):Bool:=decide (ts.length≤12)&&eK ts ts.length
theorem kO {ts:List Tm} {k:Nat} (hk:k<ts.length) (h:k8 ts k=false):dG ts=false:=by
 rw[dG,eK,Pl.gd _ _ k hk h];simp
theorem ef {ts:List Tm} {k:Nat} (h:eK ts k=true) (ha:k8 ts k=true):eK ts (k+1)=true:=by
 unfold eK at h ⊢;rw[Pl.g7,h,ha];rfl
theorem mK (ts:List Tm) (n:ByteArray) (k:Nat) (h:k<ts.length) (hq:bA (ts.take k) n=false) (hn:((ts.getD k Tm.none).nm.toList==n.toList)=false):bA (ts.take (k+1)) n=false:=by
 have e:ts.getD k Tm.none=ts[k]:=by simp[h]
 rw[e]at hn;unfold bA at hq ⊢;rw[List.take_succ_eq_append_getElem h,List.any_append,hq];simp[hn]
theorem nJ (ts:List Tm) (n:ByteArray) (k:Nat) (h:k<ts.length) (hn:((ts.getD k Tm.none).nm.toList==n.toList)=true):bA ts n=true:=by
 have e:ts.getD k Tm.none=ts[k]:=by simp[h]
 rw[e]at hn;unfold bA;rw[List.any_eq_true];exact⟨ts[k],List.getElem_mem h,hn⟩
theorem nF (ts:List Tm) (n:ByteArray) (k:Nat) (h:ts.length≤k) (hq:bA (ts.take k) n=false):bA ts n=false:=by
 rw[List.take_of_length_le h]at hq;exact hq
end Go.Proofs.YtbiokpmdghmgcaaGreat
