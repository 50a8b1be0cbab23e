import Derived.Test.YtbiokpmdghmgcaaGreatPuts
namespace Go.Proofs.YtbiokpmdghmgcaaGreat
open Go.RowKit Go.Deep
structure Mnd where
 kind:ByteArray
 field:ByteArray
 whn:ByteArray
 is_:ByteArray
 put:ByteArray
 frm:ByteArray
def Mnd.none:Mnd:=⟨ByteArray.empty,ByteArray.empty,ByteArray.empty,ByteArray.empty,ByteArray.empty,ByteArray.empty⟩
def Mnd.sized (m:Mnd):Prop:=m.kind.size≤maxLen∧m.field.size≤maxLen∧m.whn.size≤maxLen∧m.is_.size≤maxLen∧m.put.size≤maxLen∧m.frm.size≤maxLen
structure ga (w:World) (b o:Nat) (m:Mnd):Prop where
 c0:w.cell? ⟨b,o,none⟩=some (.string m.kind)
 c1:w.cell? ⟨b,o+1,none⟩=some (.string m.field)
 c2:w.cell? ⟨b,o+2,none⟩=some (.string m.whn)
 c3:w.cell? ⟨b,o+3,none⟩=some (.string m.is_)
 c4:w.cell? ⟨b,o+4,none⟩=some (.string m.put)
 c5:w.cell? ⟨b,o+5,none⟩=some (.string m.frm)
 sized:m.sized
theorem ga.later {w w':World} {b o:Nat} {m:Mnd} (h:ga w b o m) (hb:Bel w w') (av:b<w.heap.size):ga w' b o m:=by
 have c:∀ j,w'.cell? ⟨b,j,none⟩=w.cell? ⟨b,j,none⟩:=fun j=>hb.cell (p:=⟨b,j,none⟩) av;exact⟨(c _).trans h.c0,(c _).trans h.c1,(c _).trans h.c2,(c _).trans h.c3,(c _).trans h.c4,(c _).trans h.c5,h.sized⟩
def ly (w:World) (v:Value) (ms:List Mnd):Prop:=
 (∃ a cap,v=.slice a 0 cap∧ms=[])∨∃ b off cap,v=.slice (some ⟨b,off,none⟩) ms.length cap∧b<w.heap.size∧ms.length≤maxLen∧∀ i,i<ms.length→ga w b (off+i*6) (ms.getD i Mnd.none)
theorem ly.later {w w':World} {v:Value} {ms:List Mnd} (h:ly w v ms) (hb:Bel w w'):ly w' v ms:=by
 rcases h with h|⟨b,off,cap,rfl,h1,h2,h3⟩
 ·exact Or.inl h
 ·exact Or.inr ⟨b,off,cap,rfl,lo h1 hb.size,h2,fun i hi=>(h3 i hi).later hb h1⟩
structure dv (w:World) (B:Nat) (ms:List Mnd):Prop where
 lt:B<w.heap.size
 len:ms.length≤1048576
 at_:∀ i,i<ms.length→ga w B (i*6) (ms.getD i Mnd.none)
theorem dv.later {w w':World} {B:Nat} {ms:List Mnd} (h:dv w B ms) (hb:Bel w w'):dv w' B ms:=
 ⟨lo h.lt hb.size,h.len,fun i hi=>(h.at_ i hi).later hb h.lt⟩
theorem ga.aI {w:World} {B o:Nat} {m:Mnd} (h:ga w B o m) (o':Nat) (vs:List Value) (ho:o+6≤o'):ga (aI w B o' 0 vs) B o m:=by
 have c:∀ j,j<o'→(YtbiokpmdghmgcaaGreat.aI w B o' 0 vs).cell? ⟨B,j,none⟩=w.cell? ⟨B,j,none⟩:=fun j hj=>bt B o' B j vs w 0 (by omega);exact⟨(c _ (by omega)).trans h.c0,(c _ (by omega)).trans h.c1,(c _ (by omega)).trans h.c2,(c _ (by omega)).trans h.c3,(c _ (by omega)).trans h.c4,(c _ (by omega)).trans h.c5,h.sized⟩
theorem su {w:World} {B:Nat} {t:TypeId} {n:Nat} (hO:ai w B t n) (o:Nat) (ho:o+6≤n) (m:Mnd) (hs:m.sized):
  ga (aI w B o 0 [.string m.kind,.string m.field,.string m.whn,.string m.is_,.string m.put,.string m.frm]) B o m:=by
 have c:=fun i hi=>cB o [.string m.kind,.string m.field,.string m.whn,.string m.is_,.string m.put,.string m.frm] w 0 hO (by simp;omega) i hi;exact⟨c 0 (by simp),c 1 (by simp),c 2 (by simp),c 3 (by simp),c 4 (by simp),c 5 (by simp),hs⟩
end Go.Proofs.YtbiokpmdghmgcaaGreat
