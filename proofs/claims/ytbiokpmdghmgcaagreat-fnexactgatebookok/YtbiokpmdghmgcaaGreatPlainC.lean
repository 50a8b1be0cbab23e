import Derived.Test.YtbiokpmdghmgcaaGreatPuts
namespace Go.Proofs.YtbiokpmdghmgcaaGreat.Pl
theorem rP (l:List UInt8) (c:UInt8):cM (l++[c])=cM l*10+((c.toNat:Int) - 48):=by
 simp[cM,List.foldl_append]
theorem j6 (s:ByteArray) (k:Nat) (h:k<s.size):cM (s.data.toList.take (k+1))=cM (s.data.toList.take k)*10+((s[k].toNat:Int) - 48):=by
 rw[pM s k h,rP]
theorem xc (s:ByteArray) (k:Nat) (hk:k≤s.size) (h:(s.data.toList.take k).all digit=true):
  0≤cM (s.data.toList.take k)∧cM (s.data.toList.take k)+1≤((10 ^ k:Nat):Int):=by
 induction k with
 |zero=>simp[cM]
 |succ k ih=>
  have aw:k<s.size:=by omega
  rw[gH _ _ _ aw]at h;simp only[Bool.and_eq_true]at h;obtain⟨ha,hb⟩:=h;have ih':=ih (by omega) ha;rw[j6 s k aw,Nat.pow_succ];simp only[digit,Bool.and_eq_true,decide_eq_true_eq]at hb;omega
theorem gW (s:ByteArray) (k:Nat) (hk:k≤s.size) (h7:k≤7) (h:(s.data.toList.take k).all digit=true):
  0≤cM (s.data.toList.take k)∧cM (s.data.toList.take k)≤9999999:=by
 have hb:=xc s k hk h;have:10 ^ k≤10 ^ 7:=Nat.pow_le_pow_right (by omega) h7;omega
theorem head_eq (s:ByteArray) (h:0<s.size):s.data.toList.headD 0=s[0]:=by
 have:s.data.toList≠ []:=by
  intro e;have:s.size=0:=by
   have:=congrArg List.length e;simpa using this
  omega
 rw[List.headD_eq_head?_getD,List.head?_eq_some_head this];simp[List.head_eq_getElem];rfl
theorem na (s:ByteArray) (h:0<s.size):lead s=(decide (1<s.size)&&(s[0]==48)):=by
 rw[lead,head_eq s h]
def g8 (s:ByteArray):Int:=if du s then cM s.data.toList else -1
theorem lQ (c d:UInt8):(c==d)=((c.toNat:Int)==(d.toNat:Int)):=by
 rw[Bool.eq_iff_iff];simp[← UInt8.toNat_inj];omega
theorem tl (s:ByteArray):s.toList=s.data.toList:=ByteArray.toList_eq s
theorem lR (s:ByteArray):s.data.toList.length=s.size:=Array.length_toList
theorem fI (s:ByteArray) (h:1≤s.size):s.toList.isEmpty=false:=by
 rw[tl];rw[← lR]at h;revert h
 cases s.data.toList with
 |nil=>intro h;exact absurd h (by decide)
 |cons a l=>intro _;rfl
theorem gn (s:ByteArray) (h:¬ 1≤s.size):s.toList.isEmpty=true:=by
 rw[tl];rw[← lR]at h;revert h
 cases s.data.toList with
 |nil=>intro _;rfl
 |cons a l=>intro h;exact absurd (Nat.succ_le_succ (Nat.zero_le l.length)) h
theorem zt (s:ByteArray) (h:s.size=1) (c:UInt8) (hc:s.data.toList.headD 0=c):(s.toList==[c])=true:=by
 rw[tl];have h':s.data.toList.length=1:=by rw[lR];exact h
 obtain⟨a,ha⟩:=List.length_eq_one_iff.1 h';rw[ha]at hc ⊢;simpa using hc
theorem tV (s:ByteArray) (h:1<s.size) (c:UInt8):(s.toList==[c])=false:=by
 rw[tl,beq_eq_false_iff_ne];intro e;have:=congrArg List.length e;rw[lR]at this;have e1:[c].length=1:=rfl;omega
end Go.Proofs.YtbiokpmdghmgcaaGreat.Pl
namespace Go.Proofs.YtbiokpmdghmgcaaGreat
open Go.RowKit Go.Deep
namespace Pl
def less (a b:ByteArray):Bool:=Op.bytesLess a.toList b.toList
def ig (l:List ByteArray) (i:Nat):Bool:=aq (l.getD i ByteArray.empty)&&(decide (i=0)||less (l.getD (i - 1) ByteArray.empty) (l.getD i ByteArray.empty))
def pS (l:List ByteArray) (k:Nat):Bool:=(List.range k).all (ig l)
def asc (l:List ByteArray):Bool:=pS l l.length
def aE (s:ByteArray):Bool:=s.toList.isEmpty
theorem g7 (p:Nat→Bool) (k:Nat):(List.range (k+1)).all p=((List.range k).all p&&p k):=by
 rw[List.range_succ,List.all_append];simp
theorem gd (p:Nat→Bool) (n k:Nat) (h:k<n) (hp:p k=false):(List.range n).all p=false:=by
 rw[List.all_eq_false];exact⟨k,List.mem_range.2 h,by simp[hp]⟩
end Pl
def aB (ss:List Shp) (k:ByteArray):Nat:=ss.findIdx (fun s=>s.kind.toList==k.toList)
def aJ (ss:List Shp) (k:ByteArray):Bool:=decide (aB ss k<ss.length)
def bD (f:Fld):Bool:=
 if f.kind=1 then f.words.isEmpty&&Pl.aE f.to&&decide (f.role=0)
 else if f.kind=2 then decide (f.least=0)&&decide (f.most=0)&&Pl.aE f.to&&decide (f.role=0)&&Pl.aE f.we
 else if f.kind=3 then f.words.isEmpty&&Pl.aE f.to&&decide (f.role=0)&&Pl.aE f.we
 else decide (f.least=0)&&decide (f.most=0)&&f.words.isEmpty&&Pl.aE f.we
def aC (ss:List Shp) (f:Fld):Bool:=
 if f.kind=1 then decide (0≤f.least)&&decide (f.least≤f.most)&&decide (f.most≤1000000)&&(Pl.aE f.we||Pl.aq f.we)
 else if f.kind=2 then decide (1≤f.words.length)&&decide (f.words.length≤6)&&Pl.asc f.words
 else if f.kind=3 then decide (1≤f.least)&&decide (f.least≤f.most)&&decide (f.most≤40)
 else aJ ss f.to&&decide (1≤f.role)&&decide (f.role≤3)&&Pl.aE f.de&&(!decide (f.role=2)|| !f.must)
def isKind (k:Int):Bool:=decide (1≤k)&&decide (k≤4)
def dA (f:Fld) (v:ByteArray):Bool:=Pl.fits f.kind f.least f.most f.words v
def gg (f:Fld):Bool:=Pl.aE f.de||dA f f.de
def ay (ss:List Shp) (f:Fld):Bool:=isKind f.kind&&bD f&&aC ss f&&gg f
def Df (fs:List Fld) (i:Nat):Bool:=(List.range i).any (fun j=>(fs.getD j Fld.none).nm.toList==(fs.getD i Fld.none).nm.toList)
def fieldAt (ss:List Shp) (fs:List Fld) (i:Nat):Bool:=Pl.aq (fs.getD i Fld.none).nm&&ay ss (fs.getD i Fld.none)&& !Df fs i
def fk (ss:List Shp) (fs:List Fld) (k:Nat):Bool:=(List.range k).all (fieldAt ss fs)
def aG (ss:List Shp) (fs:List Fld):Bool:=decide (fs.length≤6)&&fk ss fs fs.length
def dH (ss:List Shp) (i:Nat):Bool:=Pl.aq (ss.getD i Shp.none).kind&&(decide (i=0)||Pl.less (ss.getD (i - 1) Shp.none).kind (ss.getD i Shp.none).kind)&&aG ss (ss.getD i Shp.none).fields
def fK (ss:List Shp) (k:Nat):Bool:=(List.range k).all (dH ss)
def aM (ss:List Shp):Bool:=decide (ss.length≤6)&&fK ss ss.length
structure bd (w:World) (B:Nat) (ss:List Shp):Prop where
 lt:B<w.heap.size
 len:ss.length≤1048576
 small:∀ s∈ss,s.small
 at_:∀ i,i<ss.length→fi w B (i*2) (ss.getD i Shp.none)
 own:ai w B 134 (ss.length*2)
theorem bd.later {w w':World} {B:Nat} {ss:List Shp} (h:bd w B ss) (hb:Bel w w'):bd w' B ss:=
 ⟨lo h.lt hb.size,h.len,h.small,fun i hi=>(h.at_ i hi).later hb h.lt,h.own.later hb⟩
theorem k7 (ss:List Shp) (k:ByteArray) (i:Nat) (hi:i<ss.length) (iH:i≤aB ss k) (h:((ss.getD i Shp.none).kind.toList==k.toList)=true):aB ss k=i:=by
 have e:ss.getD i Shp.none=ss[i]:=by simp[hi]
 rw[e]at h;have:aB ss k≤i:=by
  unfold aB;exact Nat.le_of_not_lt fun aw=>by
   have:=List.not_of_lt_findIdx aw;simp[h]at this
 omega
theorem j4 (ss:List Shp) (k:ByteArray) (i:Nat) (hi:i<ss.length) (iH:i≤aB ss k) (h:((ss.getD i Shp.none).kind.toList==k.toList)=false):i+1≤aB ss k:=by
 have e:ss.getD i Shp.none=ss[i]:=by simp[hi]
 rw[e]at h;by_cases hq:aB ss k=i
 ·exfalso;have aw:aB ss k<ss.length:=by omega
  have:=List.findIdx_getElem (w:=aw);unfold aB at hq;simp only[hq]at this;rw[this]at h;cases h
 ·omega
end Go.Proofs.YtbiokpmdghmgcaaGreat
