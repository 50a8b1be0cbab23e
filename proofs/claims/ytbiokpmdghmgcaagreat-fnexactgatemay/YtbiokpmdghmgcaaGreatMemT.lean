import Derived.Deep.OwnRows
import Derived.Deep.RegionWith
import Derived.BigQuiet
import Derived.Deep.QuietTactic
import Derived.Test.YtbiokpmdghmgcaaGreatPuts
import Derived.Test.YtbiokpmdghmgcaaGreatWalkKO
namespace Go.Proofs.YtbiokpmdghmgcaaGreat
open Go.RowKit Go.Deep
structure Tm where
 nm:ByteArray
 ov:ByteArray
def Tm.none:Tm:=⟨ByteArray.empty,ByteArray.empty⟩
def Tm.sized (m:Tm):Prop:=m.nm.size≤maxLen∧m.ov.size≤maxLen
structure lD (w:World) (b o:Nat) (m:Tm):Prop where
 c0:w.cell? ⟨b,o,none⟩=some (.string m.nm)
 c1:w.cell? ⟨b,o+1,none⟩=some (.string m.ov)
 sized:m.sized
theorem lD.later {w w':World} {b o:Nat} {m:Tm} (h:lD w b o m) (hb:Bel w w') (av:b<w.heap.size):lD w' b o m:=by
 have c:∀ j,w'.cell? ⟨b,j,none⟩=w.cell? ⟨b,j,none⟩:=fun j=>hb.cell (p:=⟨b,j,none⟩) av;exact⟨(c _).trans h.c0,(c _).trans h.c1,h.sized⟩
def oo (w:World) (v:Value) (ms:List Tm):Prop:=
 (∃ a cap,v=.slice a 0 cap∧ms=[])∨∃ b off cap,v=.slice (some ⟨b,off,none⟩) ms.length cap∧b<w.heap.size∧ms.length≤maxLen∧∀ i,i<ms.length→lD w b (off+i*2) (ms.getD i Tm.none)
theorem oo.later {w w':World} {v:Value} {ms:List Tm} (h:oo w v ms) (hb:Bel w w'):oo w' v ms:=by
 rcases h with h|⟨b,off,cap,rfl,h1,h2,h3⟩
 ·exact Or.inl h
 ·exact Or.inr ⟨b,off,cap,rfl,lo h1 hb.size,h2,fun i hi=>(h3 i hi).later hb h1⟩
structure eB (w:World) (B:Nat) (ms:List Tm):Prop where
 lt:B<w.heap.size
 len:ms.length≤1048576
 at_:∀ i,i<ms.length→lD w B (i*2) (ms.getD i Tm.none)
theorem eB.later {w w':World} {B:Nat} {ms:List Tm} (h:eB w B ms) (hb:Bel w w'):eB w' B ms:=
 ⟨lo h.lt hb.size,h.len,fun i hi=>(h.at_ i hi).later hb h.lt⟩
theorem lD.aI {w:World} {B o:Nat} {m:Tm} (h:lD w B o m) (o':Nat) (vs:List Value) (ho:o+2≤o'):lD (aI w B o' 0 vs) B o m:=by
 have c:∀ j,j<o'→(YtbiokpmdghmgcaaGreat.aI w B o' 0 vs).cell? ⟨B,j,none⟩=w.cell? ⟨B,j,none⟩:=fun j hj=>bt B o' B j vs w 0 (by omega);exact⟨(c _ (by omega)).trans h.c0,(c _ (by omega)).trans h.c1,h.sized⟩
theorem uq {w:World} {B:Nat} {t:TypeId} {n:Nat} (hO:ai w B t n) (o:Nat) (ho:o+2≤n) (m:Tm) (hs:m.sized):
  lD (aI w B o 0 [.string m.nm,.string m.ov]) B o m:=by
 have c:=fun i hi=>cB o [.string m.nm,.string m.ov] w 0 hO (by simp;omega) i hi;exact⟨c 0 (by simp),c 1 (by simp),hs⟩
end Go.Proofs.YtbiokpmdghmgcaaGreat
