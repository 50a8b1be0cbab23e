import Derived.Deep.OwnRows
import Derived.Deep.RegionWith
import Derived.BigQuiet
import Derived.Deep.QuietTactic
import Derived.Test.YtbiokpmdghmgcaaGreatPuts
import Derived.Test.YtbiokpmdghmgcaaGreatWalkKO
namespace Go.Proofs.YtbiokpmdghmgcaaGreat
open Go.RowKit Go.Deep
structure Tm where
 nm:ByteArray
 ov:ByteArray
def Tm.none:Tm:=⟨ByteArray.empty,ByteArray.empty⟩
def Tm.sized (m:Tm):Prop:=m.nm.size≤maxLen∧m.ov.size≤maxLen
structure lg (w:World) (b o:Nat) (m:Tm):Prop where
 c0:w.cell? ⟨b,o,none⟩=some (.string m.nm)
 c1:w.cell? ⟨b,o+1,none⟩=some (.string m.ov)
 sized:m.sized
theorem lg.later {w w':World} {b o:Nat} {m:Tm} (h:lg w b o m) (hb:Bel w w') (aw:b<w.heap.size):lg w' b o m:=by
 have c:∀ j,w'.cell? ⟨b,j,none⟩=w.cell? ⟨b,j,none⟩:=fun j=>hb.cell (p:=⟨b,j,none⟩) aw;exact⟨(c _).trans h.c0,(c _).trans h.c1,h.sized⟩
def nY (w:World) (v:Value) (ms:List Tm):Prop:=
 (∃ a cap,v=.slice a 0 cap∧ms=[])∨∃ b off cap,v=.slice (some ⟨b,off,none⟩) ms.length cap∧b<w.heap.size∧ms.length≤maxLen∧∀ i,i<ms.length→lg w b (off+i*2) (ms.getD i Tm.none)
theorem nY.later {w w':World} {v:Value} {ms:List Tm} (h:nY w v ms) (hb:Bel w w'):nY w' v ms:=by
 rcases h with h|⟨b,off,cap,rfl,h1,h2,h3⟩
 ·exact Or.inl h
 ·exact Or.inr ⟨b,off,cap,rfl,lo h1 hb.size,h2,fun i hi=>(h3 i hi).later hb h1⟩
structure eS (w:World) (B:Nat) (ms:List Tm):Prop where
 lt:B<w.heap.size
 len:ms.length≤1048576
 at_:∀ i,i<ms.length→lg w B (i*2) (ms.getD i Tm.none)
theorem eS.later {w w':World} {B:Nat} {ms:List Tm} (h:eS w B ms) (hb:Bel w w'):eS w' B ms:=
 ⟨lo h.lt hb.size,h.len,fun i hi=>(h.at_ i hi).later hb h.lt⟩
theorem lg.aI {w:World} {B o:Nat} {m:Tm} (h:lg w B o m) (o':Nat) (vs:List Value) (ho:o+2≤o'):lg (aI w B o' 0 vs) B o m:=by
 have c:∀ j,j<o'→(YtbiokpmdghmgcaaGreat.aI w B o' 0 vs).cell? ⟨B,j,none⟩=w.cell? ⟨B,j,none⟩:=fun j hj=>bt B o' B j vs w 0 (by omega);exact⟨(c _ (by omega)).trans h.c0,(c _ (by omega)).trans h.c1,h.sized⟩
theorem tu {w:World} {B:Nat} {t:TypeId} {n:Nat} (hO:ai w B t n) (o:Nat) (ho:o+2≤n) (m:Tm) (hs:m.sized):
  lg (aI w B o 0 [.string m.nm,.string m.ov]) B o m:=by
 have c:=fun i hi=>cx o [.string m.nm,.string m.ov] w 0 hO (by simp;omega) i hi;exact⟨c 0 (by simp),c 1 (by simp),hs⟩
end Go.Proofs.YtbiokpmdghmgcaaGreat
