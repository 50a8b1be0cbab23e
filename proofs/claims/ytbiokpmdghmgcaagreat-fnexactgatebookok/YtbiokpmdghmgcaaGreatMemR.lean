import Derived.Test.YtbiokpmdghmgcaaGreatPlainT
namespace Go.Proofs.YtbiokpmdghmgcaaGreat
open Go.RowKit Go.Deep
def ie (w:World) (v:Value) (l:List Int):Prop:=
 (∃ a cap,v=.slice a 0 cap∧l=[])∨∃ b off cap,v=.slice (some ⟨b,off,none⟩) l.length cap∧b<w.heap.size∧l.length≤maxLen∧∀ i,i<l.length→w.cell? ⟨b,off+i,none⟩=some (.int .i64 (l.getD i 0))
theorem ie.later {w w':World} {v:Value} {l:List Int} (h:ie w v l) (hb:Bel w w'):ie w' v l:=by
 rcases h with h|⟨g,off,c,rfl,h1,h2,h3⟩
 ·exact Or.inl h
 ·exact Or.inr ⟨g,off,c,rfl,lo h1 hb.size,h2,fun i hi=>(hb.cell (p:=⟨g,off+i,none⟩) h1).trans (h3 i hi)⟩
structure dI (w:World) (b:Nat) (l:List Int):Prop where
 lt:b<w.heap.size
 len:l.length≤1048576
 at_:∀ i,i<l.length→w.cell? ⟨b,i,none⟩=some (.int .i64 (l.getD i 0))
theorem dI.later {w w':World} {b:Nat} {l:List Int} (h:dI w b l) (hb:Bel w w'):dI w' b l:=
 ⟨lo h.lt hb.size,h.len,fun i hi=>(hb.cell (p:=⟨b,i,none⟩) h.lt).trans (h.at_ i hi)⟩
structure Rul where
 verbs:List Int
 kind:ByteArray
 team:ByteArray
 pre:ByteArray
def Rul.none:Rul:=⟨[],ByteArray.empty,ByteArray.empty,ByteArray.empty⟩
def Rul.sized (r:Rul):Prop:=r.kind.size≤maxLen∧r.team.size≤maxLen∧r.pre.size≤maxLen
def gl (l:List Int) (i:Nat):Bool:=decide (1≤l.getD i 0)&&decide (l.getD i 0≤5)&&(decide (i=0)||decide (l.getD (i - 1) 0<l.getD i 0))
def eA (l:List Int) (k:Nat):Bool:=(List.range k).all (gl l)
def eB (l:List Int):Bool:= !l.isEmpty&&eA l l.length
def eo (r:Rul):Bool:=eB r.verbs&&(r.kind.toList.isEmpty||Pl.aq r.kind)&&(r.team.toList.isEmpty||Pl.aq r.team)&&(decide (r.pre.size≤16)&&Pl.nameBytes r.pre)
theorem pd {l:List Int} {k:Nat} (hk:k<l.length) (h:gl l k=false):eB l=false:=by
 rw[eB,eA,Pl.gd _ _ k hk h];simp
theorem jw {l:List Int} {k:Nat} (h:eA l k=true) (ha:gl l k=true):eA l (k+1)=true:=by
 unfold eA at h ⊢;rw[Pl.g7,h,ha];rfl
def bit (v:Int):Nat:=1<<<v.toNat
def kL (l:List Int) (k:Nat):Nat:=((l.take k).map bit).foldl (·|||·) 0
def setOf (l:List Int):Nat:=(l.map bit).foldl (·|||·) 0
theorem nG (l:List Int) (k:Nat) (hk:k<l.length):kL l (k+1)=kL l k|||bit (l.getD k 0):=by
 have e:l.getD k 0=l[k]:=by simp[hk]
 unfold kL;rw[List.take_succ_eq_append_getElem hk,List.map_append,List.foldl_append,e];rfl
theorem xr (l:List Int) (k:Nat) (hk:l.length≤k):kL l k=setOf l:=by
 unfold kL setOf;rw[List.take_of_length_le hk]
end Go.Proofs.YtbiokpmdghmgcaaGreat
