import Derived.ProofKit
import Derived.OpenShut
import Derived.ShutString
import Derived.ChangeOld
import Derived.SliceStrings
import Derived.Deep.Slices
import Derived.Test.YtbiokpmdghmgcaaGreatMemT
import Derived.Test.YtbiokpmdghmgcaaGreatOpenS
namespace Go.Proofs.YtbiokpmdghmgcaaGreat
open Go.ChangeShapes Go.WideShapes Go.ChangeAt Go.RowKit Go.Deep
theorem vv:Tryz.prog.cellsOf 92=2:=by kernel_rfl
section
variable {H:Type} {enc:TypeId×Value→H} {W:World} {base:Nat} {sp:Nat→Bool} {held:Bool}
theorem pQ {fuel:Nat} {cs:List Value} {x:DataW H×List MemPlace} (h:DataW.trod enc Tryz.prog W base sp held fuel 92 cs=some x):
  ∃ m:Tm,cs=[.string m.nm,.string m.ov]∧m.sized:=by
 obtain⟨xs,n,_,_,hlen,lW,av⟩:=DataW.trod_struct Tryz.underlying92 h;rw[vv]at hlen;obtain⟨c0,c1,rfl⟩:=vu hlen;obtain⟨y0,y1,rfl⟩:=vu (l:=xs) (by simpa using lW);have a0:=av 0 _ rfl;have a1:=av 1 _ rfl;simp[gN]at a0 a1;obtain⟨k0,e0,_,s0⟩:=DataW.trod_string Tryz.underlying9 a0;obtain⟨k1,e1,_,s1⟩:=DataW.trod_string Tryz.underlying9 a1;simp only[List.cons.injEq,and_true]at e0 e1;subst e0 e1;exact⟨⟨k0,k1⟩,rfl,s0,s1⟩
theorem ur {fuel:Nat} {v:Value} {x:DataW H×List MemPlace} (h:DataW.trod enc Tryz.prog W base sp held fuel 24 [v]=some x):∃ ms,nY W v ms:=by
 rcases open_slice Tryz.underlying24 h with⟨bS,_⟩|⟨a,len,cap,m,n,D,Pl,bS,_,hl,hm,gT,_,hc⟩
 ·simp only[List.cons.injEq,and_true]at bS;exact⟨[],Or.inl ⟨none,0,bS,rfl⟩⟩
 ·simp only[List.cons.injEq,and_true]at bS;rw[vv]at hc;have hle:len≤m:=by rw[gT];split<;>omega
  by_cases h0:len=0
  ·subst h0;exact⟨[],Or.inl ⟨some a,cap,bS,rfl⟩⟩
  ·obtain⟨b,off,spot⟩:=a;have first:∀ i,i<m→∃ gu,(∀ j,j<2→W.cell? ((Addr.add ⟨b,off,spot⟩ (i*2)).add j)=gu[j]?)∧DataW.trod enc Tryz.prog W base sp held n 92 gu=some (D i,Pl i):=by
    intro i hi;obtain⟨gu,h1,h2⟩:=hc i hi;exact⟨gu,(World.cells?_some h1).2.2,h2⟩
   have gh:spot=none:=by
    obtain⟨gu,h1,h2⟩:=first 0 (by omega)
    obtain⟨md,rfl,_⟩:=pQ h2;have:=h1 0 (by omega);simp[Addr.add]at this;simpa using World.cell?_spot this
   subst gh;have each:∀ i,i<len→∃ md:Tm,lg W b (off+i*2) md:=by
    intro i hi;obtain⟨gu,h1,h2⟩:=first i (by omega)
    obtain⟨md,rfl,hs⟩:=pQ h2;rw[dm]at h1;have g:∀ j,j<2→W.cell? ⟨b,off+i*2+j,none⟩=[Value.string md.nm,.string md.ov][j]? :=by
     intro j hj;have:=h1 j hj;rw[dm]at this;exact this
    exact⟨md,g 0 (by omega),g 1 (by omega),hs⟩
   obtain⟨ms,iZ,dV⟩:=fO Tm.none each;have uG:=dV 0 (by omega);refine⟨ms,Or.inr ⟨b,off,cap,by rw[iZ];exact bS,gB uG.c0,by omega,fun i hi=> ?_⟩⟩;exact dV i (by omega)
end
end Go.Proofs.YtbiokpmdghmgcaaGreat
