import Derived.Test.YtbiokpmdghmgcaaGreatPuts
namespace Go.Proofs.YtbiokpmdghmgcaaGreat.Pl
theorem sZ (l:List UInt8) (c:UInt8):cO (l++[c])=cO l*10+((c.toNat:Int) - 48):=by
 simp[cO,List.foldl_append]
theorem kf (s:ByteArray) (k:Nat) (h:k<s.size):cO (s.data.toList.take (k+1))=cO (s.data.toList.take k)*10+((s[k].toNat:Int) - 48):=by
 rw[qk s k h,sZ]
theorem xF (s:ByteArray) (k:Nat) (hk:k≤s.size) (h:(s.data.toList.take k).all digit=true):
  0≤cO (s.data.toList.take k)∧cO (s.data.toList.take k)+1≤((10 ^ k:Nat):Int):=by
 induction k with
 |zero=>simp[cO]
 |succ k ih=>
  have av:k<s.size:=by omega
  rw[gR _ _ _ av]at h;simp only[Bool.and_eq_true]at h;obtain⟨ha,hb⟩:=h;have ih':=ih (by omega) ha;rw[kf s k av,Nat.pow_succ];simp only[digit,Bool.and_eq_true,decide_eq_true_eq]at hb;omega
theorem hN (s:ByteArray) (k:Nat) (hk:k≤s.size) (h7:k≤7) (h:(s.data.toList.take k).all digit=true):
  0≤cO (s.data.toList.take k)∧cO (s.data.toList.take k)≤9999999:=by
 have hb:=xF s k hk h;have:10 ^ k≤10 ^ 7:=Nat.pow_le_pow_right (by omega) h7;omega
theorem head_eq (s:ByteArray) (h:0<s.size):s.data.toList.headD 0=s[0]:=by
 have:s.data.toList≠ []:=by
  intro e;have:s.size=0:=by
   have:=congrArg List.length e;simpa using this
  omega
 rw[List.headD_eq_head?_getD,List.head?_eq_some_head this];simp[List.head_eq_getElem];rfl
theorem nG (s:ByteArray) (h:0<s.size):lead s=(decide (1<s.size)&&(s[0]==48)):=by
 rw[lead,head_eq s h]
def jl (s:ByteArray):Int:=if dU s then cO s.data.toList else -1
theorem lV (c d:UInt8):(c==d)=((c.toNat:Int)==(d.toNat:Int)):=by
 rw[Bool.eq_iff_iff];simp[← UInt8.toNat_inj];omega
theorem tl (s:ByteArray):s.toList=s.data.toList:=ByteArray.toList_eq s
theorem lX (s:ByteArray):s.data.toList.length=s.size:=Array.length_toList
theorem fK (s:ByteArray) (h:1≤s.size):s.toList.isEmpty=false:=by
 rw[tl];rw[← lX]at h;revert h
 cases s.data.toList with
 |nil=>intro h;exact absurd h (by decide)
 |cons a l=>intro _;rfl
theorem gF (s:ByteArray) (h:¬ 1≤s.size):s.toList.isEmpty=true:=by
 rw[tl];rw[← lX]at h;revert h
 cases s.data.toList with
 |nil=>intro _;rfl
 |cons a l=>intro h;exact absurd (Nat.succ_le_succ (Nat.zero_le l.length)) h
theorem Bo (s:ByteArray) (h:s.size=1) (c:UInt8) (hc:s.data.toList.headD 0=c):(s.toList==[c])=true:=by
 rw[tl];have h':s.data.toList.length=1:=by rw[lX];exact h
 obtain⟨a,ha⟩:=List.length_eq_one_iff.1 h';rw[ha]at hc ⊢;simpa using hc
theorem uf (s:ByteArray) (h:1<s.size) (c:UInt8):(s.toList==[c])=false:=by
 rw[tl,beq_eq_false_iff_ne];intro e;have:=congrArg List.length e;rw[lX]at this;have e1:[c].length=1:=rfl;omega
end Go.Proofs.YtbiokpmdghmgcaaGreat.Pl
namespace Go.Proofs.YtbiokpmdghmgcaaGreat
open Go.RowKit Go.Deep
namespace Pl
def less (a b:ByteArray):Bool:=Op.bytesLess a.toList b.toList
def kl (l:List ByteArray) (i:Nat):Bool:=aq (l.getD i ByteArray.empty)&&(decide (i=0)||less (l.getD (i - 1) ByteArray.empty) (l.getD i ByteArray.empty))
def qn (l:List ByteArray) (k:Nat):Bool:=(List.range k).all (kl l)
def asc (l:List ByteArray):Bool:=qn l l.length
def aE (s:ByteArray):Bool:=s.toList.isEmpty
theorem ib (p:Nat→Bool) (k:Nat):(List.range (k+1)).all p=((List.range k).all p&&p k):=by
 rw[List.range_succ,List.all_append];simp
theorem gl (p:Nat→Bool) (n k:Nat) (h:k<n) (hp:p k=false):(List.range n).all p=false:=by
 rw[List.all_eq_false];exact⟨k,List.mem_range.2 h,by simp[hp]⟩
end Pl
def aB (ss:List Shp) (k:ByteArray):Nat:=ss.findIdx (fun s=>s.kind.toList==k.toList)
def aK (ss:List Shp) (k:ByteArray):Bool:=decide (aB ss k<ss.length)
def ca (f:Fld):Bool:=
 if f.kind=1 then f.words.isEmpty&&Pl.aE f.to&&decide (f.role=0)
 else if f.kind=2 then decide (f.least=0)&&decide (f.most=0)&&Pl.aE f.to&&decide (f.role=0)&&Pl.aE f.we
 else if f.kind=3 then f.words.isEmpty&&Pl.aE f.to&&decide (f.role=0)&&Pl.aE f.we
 else decide (f.least=0)&&decide (f.most=0)&&f.words.isEmpty&&Pl.aE f.we
def aL (ss:List Shp) (f:Fld):Bool:=
 if f.kind=1 then decide (0≤f.least)&&decide (f.least≤f.most)&&decide (f.most≤1000000)&&(Pl.aE f.we||Pl.aq f.we)
 else if f.kind=2 then decide (1≤f.words.length)&&decide (f.words.length≤6)&&Pl.asc f.words
 else if f.kind=3 then decide (1≤f.least)&&decide (f.least≤f.most)&&decide (f.most≤40)
 else aK ss f.to&&decide (1≤f.role)&&decide (f.role≤3)&&Pl.aE f.de&&(!decide (f.role=2)|| !f.must)
def isKind (k:Int):Bool:=decide (1≤k)&&decide (k≤4)
def dC (f:Fld) (v:ByteArray):Bool:=Pl.fits f.kind f.least f.most f.words v
def gi (f:Fld):Bool:=Pl.aE f.de||dC f f.de
def aD (ss:List Shp) (f:Fld):Bool:=isKind f.kind&&ca f&&aL ss f&&gi f
def En (fs:List Fld) (i:Nat):Bool:=(List.range i).any (fun j=>(fs.getD j Fld.none).nm.toList==(fs.getD i Fld.none).nm.toList)
def fieldAt (ss:List Shp) (fs:List Fld) (i:Nat):Bool:=Pl.aq (fs.getD i Fld.none).nm&&aD ss (fs.getD i Fld.none)&& !En fs i
def fp (ss:List Shp) (fs:List Fld) (k:Nat):Bool:=(List.range k).all (fieldAt ss fs)
def aH (ss:List Shp) (fs:List Fld):Bool:=decide (fs.length≤6)&&fp ss fs fs.length
def eP (ss:List Shp) (i:Nat):Bool:=Pl.aq (ss.getD i Shp.none).kind&&(decide (i=0)||Pl.less (ss.getD (i - 1) Shp.none).kind (ss.getD i Shp.none).kind)&&aH ss (ss.getD i Shp.none).fields
def fJ (ss:List Shp) (k:Nat):Bool:=(List.range k).all (eP ss)
def aN (ss:List Shp):Bool:=decide (ss.length≤6)&&fJ ss ss.length
structure bh (w:World) (B:Nat) (ss:List Shp):Prop where
 lt:B<w.heap.size
 len:ss.length≤1048576
 small:∀ s∈ss,s.small
 at_:∀ i,i<ss.length→fo w B (i*2) (ss.getD i Shp.none)
 own:ai w B 134 (ss.length*2)
theorem bh.later {w w':World} {B:Nat} {ss:List Shp} (h:bh w B ss) (hb:Bel w w'):bh w' B ss:=
 ⟨lo h.lt hb.size,h.len,h.small,fun i hi=>(h.at_ i hi).later hb h.lt,h.own.later hb⟩
theorem lF (ss:List Shp) (k:ByteArray) (i:Nat) (hi:i<ss.length) (iM:i≤aB ss k) (h:((ss.getD i Shp.none).kind.toList==k.toList)=true):aB ss k=i:=by
 have e:ss.getD i Shp.none=ss[i]:=by simp[hi]
 rw[e]at h;have:aB ss k≤i:=by
  unfold aB;exact Nat.le_of_not_lt fun av=>by
   have:=List.not_of_lt_findIdx av;simp[h]at this
 omega
theorem kh (ss:List Shp) (k:ByteArray) (i:Nat) (hi:i<ss.length) (iM:i≤aB ss k) (h:((ss.getD i Shp.none).kind.toList==k.toList)=false):i+1≤aB ss k:=by
 have e:ss.getD i Shp.none=ss[i]:=by simp[hi]
 rw[e]at h;by_cases hq:aB ss k=i
 ·exfalso;have av:aB ss k<ss.length:=by omega
  have:=List.findIdx_getElem (w:=av);unfold aB at hq;simp only[hq]at this;rw[this]at h;cases h
 ·omega
end Go.Proofs.YtbiokpmdghmgcaaGreat
