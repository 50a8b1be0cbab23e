import Derived.Test.YtbiokpmdghmgcaaGreatMemT
import Derived.Test.YtbiokpmdghmgcaaGreatPlainC
namespace Go.Proofs.YtbiokpmdghmgcaaGreat
open Go.RowKit Go.Deep
namespace Pl
theorem kO {s:ByteArray} (h:aq s=true):s.toList.isEmpty=false:=by
 simp only[aq,Bool.and_eq_true,decide_eq_true_eq]at h;exact fK s h.1.1
end Pl
def bN:List Tm→ByteArray→ByteArray
 |[],_=>ByteArray.empty
 |t::ts,n=>if (t.nm.toList==n.toList)=true then t.ov else bN ts n
theorem qo (ts:List Tm) (n:ByteArray) (k:Nat) (hk:k<ts.length):
  bN (ts.drop k) n=if ((ts.getD k Tm.none).nm.toList==n.toList)=true then (ts.getD k Tm.none).ov else bN (ts.drop (k+1)) n:=by
 have e:ts.getD k Tm.none=ts[k]:=by simp[hk]
 rw[List.drop_eq_getElem_cons hk,e,bN]
theorem oZ (ts:List Tm) (n:ByteArray) (k:Nat) (hk:ts.length≤k):bN (ts.drop k) n=ByteArray.empty:=by
 rw[List.drop_of_length_le hk,bN]
def ma (ts:List Tm):Nat→ByteArray→ByteArray→Bool
 |0,_,_=>false
 |k+1,a,b=>if Pl.aE (bN ts a)=true then false else if ((bN ts a).toList==b.toList)=true then true else ma ts k (bN ts a) b
def under (ts:List Tm) (a b:ByteArray):Bool:=(a.toList==b.toList)||ma ts 4 a b
def high (ts:List Tm):Nat→ByteArray→Bool
 |0,_=>false
 |k+1,a=>if Pl.aE (bN ts a)=true then true else high ts k (bN ts a)
def bB (ts:List Tm) (n:ByteArray):Bool:=ts.any (fun t=>t.nm.toList==n.toList)
def lh (ts:List Tm) (i:Nat):Bool:=
 Pl.aq (ts.getD i Tm.none).nm&&(decide (i=0)||Pl.less (ts.getD (i - 1) Tm.none).nm (ts.getD i Tm.none).nm)&&(Pl.aE (ts.getD i Tm.none).ov||bB ts (ts.getD i Tm.none).ov)&&high ts 5 (ts.getD i Tm.none).nm
def eN (ts:List Tm) (k:Nat):Bool:=(List.range k).all (lh ts)
def el (ts:List Tm):Bool:=decide (ts.length≤12)&&eN ts ts.length
theorem k7 {ts:List Tm} {k:Nat} (hk:k<ts.length) (h:lh ts k=false):el ts=false:=by
 rw[el,eN,Pl.gl _ _ k hk h];simp
theorem eh {ts:List Tm} {k:Nat} (h:eN ts k=true) (ha:lh ts k=true):eN ts (k+1)=true:=by
 unfold eN at h ⊢;rw[Pl.ib,h,ha];rfl
theorem ni (ts:List Tm) (n:ByteArray) (k:Nat) (h:k<ts.length) (hq:bB (ts.take k) n=false) (hn:((ts.getD k Tm.none).nm.toList==n.toList)=false):bB (ts.take (k+1)) n=false:=by
 have e:ts.getD k Tm.none=ts[k]:=by simp[h]
 rw[e]at hn;unfold bB at hq ⊢;rw[List.take_succ_eq_append_getElem h,List.any_append,hq];simp[hn]
theorem nT (ts:List Tm) (n:ByteArray) (k:Nat) (h:k<ts.length) (hn:((ts.getD k Tm.none).nm.toList==n.toList)=true):bB ts n=true:=by
 have e:ts.getD k Tm.none=ts[k]:=by simp[h]
 rw[e]at hn;unfold bB;rw[List.any_eq_true];exact⟨ts[k],List.getElem_mem h,hn⟩
theorem pc (ts:List Tm) (n:ByteArray) (k:Nat) (h:ts.length≤k) (hq:bB (ts.take k) n=false):bB ts n=false:=by
 rw[List.take_of_length_le h]at hq;exact hq
def iv (w:World) (v:Value) (l:List Int):Prop:=
 (∃ a cap,v=.slice a 0 cap∧l=[])∨∃ b off cap,v=.slice (some ⟨b,off,none⟩) l.length cap∧b<w.heap.size∧l.length≤maxLen∧∀ i,i<l.length→w.cell? ⟨b,off+i,none⟩=some (.int .i64 (l.getD i 0))
theorem iv.later {w w':World} {v:Value} {l:List Int} (h:iv w v l) (hb:Bel w w'):iv w' v l:=by
 rcases h with h|⟨g,off,c,rfl,h1,h2,h3⟩
 ·exact Or.inl h
 ·exact Or.inr ⟨g,off,c,rfl,lo h1 hb.size,h2,fun i hi=>(hb.cell (p:=⟨g,off+i,none⟩) h1).trans (h3 i hi)⟩
structure cn (w:World) (b:Nat) (l:List Int):Prop where
 lt:b<w.heap.size
 len:l.length≤1048576
 at_:∀ i,i<l.length→w.cell? ⟨b,i,none⟩=some (.int .i64 (l.getD i 0))
theorem cn.later {w w':World} {b:Nat} {l:List Int} (h:cn w b l) (hb:Bel w w'):cn w' b l:=
 ⟨lo h.lt hb.size,h.len,fun i hi=>(hb.cell (p:=⟨b,i,none⟩) h.lt).trans (h.at_ i hi)⟩
structure Rul where
 verbs:List Int
 kind:ByteArray
 team:ByteArray
 pre:ByteArray
structure g7 where
 verb:Int
 kind:ByteArray
 team:ByteArray
 name:ByteArray
def Rul.none:Rul:=⟨[],ByteArray.empty,ByteArray.empty,ByteArray.empty⟩
def Rul.sized (r:Rul):Prop:=r.kind.size≤maxLen∧r.team.size≤maxLen∧r.pre.size≤maxLen
def g7.sized (d:g7):Prop:=d.kind.size≤maxLen∧d.team.size≤maxLen∧d.name.size≤maxLen
def gH (l:List Int) (i:Nat):Bool:=decide (1≤l.getD i 0)&&decide (l.getD i 0≤5)&&(decide (i=0)||decide (l.getD (i - 1) 0<l.getD i 0))
def dZ (l:List Int) (k:Nat):Bool:=(List.range k).all (gH l)
def bO (l:List Int):Bool:= !l.isEmpty&&dZ l l.length
def eO (r:Rul):Bool:=bO r.verbs&&(r.kind.toList.isEmpty||Pl.aq r.kind)&&(r.team.toList.isEmpty||Pl.aq r.team)&&(decide (r.pre.size≤16)&&Pl.nameBytes r.pre)
theorem pM {l:List Int} {k:Nat} (hk:k<l.length) (h:gH l k=false):bO l=false:=by
 rw[bO,dZ,Pl.gl _ _ k hk h];simp
theorem jS {l:List Int} {k:Nat} (h:dZ l k=true) (ha:gH l k=true):dZ l (k+1)=true:=by
 unfold dZ at h ⊢;rw[Pl.ib,h,ha];rfl
def eS (s p:ByteArray):Bool:=decide (p.size≤s.size)&&((s.extract 0 p.size).toList==p.toList)
def FY (q:ByteArray) (k:ByteArray):Bool:=q.toList.isEmpty||(q.toList==k.toList)
def FU (ts:List Tm) (q:ByteArray) (k:ByteArray):Bool:=q.toList.isEmpty||under ts k q
def given (ts:List Tm) (q:Rul) (kind team name:ByteArray):Bool:=FY q.kind kind&&FU ts q.team team&&eS name q.pre
def dH (l:List Int) (v:Int):Bool:=l.any (fun x=>x==v)
def bit (v:Int):Nat:=1<<<v.toNat
def la (l:List Int) (k:Nat):Nat:=((l.take k).map bit).foldl (·|||·) 0
def setOf (l:List Int):Nat:=(l.map bit).foldl (·|||·) 0
theorem oa (l:List Int) (k:Nat) (hk:k<l.length):la l (k+1)=la l k|||bit (l.getD k 0):=by
 have e:l.getD k 0=l[k]:=by simp[hk]
 unfold la;rw[List.take_succ_eq_append_getElem hk,List.map_append,List.foldl_append,e];rfl
theorem pV (l:List Int) (k:Nat) (hk:l.length≤k):la l k=setOf l:=by
 unfold la setOf;rw[List.take_of_length_le hk]
end Go.Proofs.YtbiokpmdghmgcaaGreat
