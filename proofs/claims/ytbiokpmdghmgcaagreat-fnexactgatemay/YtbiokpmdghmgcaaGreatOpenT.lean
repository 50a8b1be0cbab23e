import Derived.ProofKit
import Derived.OpenShut
import Derived.ShutString
import Derived.ChangeOld
import Derived.SliceStrings
import Derived.Deep.Slices
import Derived.Test.YtbiokpmdghmgcaaGreatMemT
import Derived.Test.YtbiokpmdghmgcaaGreatOpenS
namespace Go.Proofs.YtbiokpmdghmgcaaGreat
open Go.ChangeShapes Go.WideShapes Go.ChangeAt Go.RowKit Go.Deep
theorem wT:Tryz.prog.cellsOf 92=2:=by kernel_rfl
section
variable {H:Type} {enc:TypeId×Value→H} {W:World} {base:Nat} {sp:Nat→Bool} {held:Bool}
theorem qf {fuel:Nat} {cs:List Value} {x:DataW H×List MemPlace} (h:DataW.trod enc Tryz.prog W base sp held fuel 92 cs=some x):
  ∃ m:Tm,cs=[.string m.nm,.string m.ov]∧m.sized:=by
 obtain⟨xs,n,_,_,hlen,lK,aw⟩:=DataW.trod_struct Tryz.underlying92 h;rw[wT]at hlen;obtain⟨c0,c1,rfl⟩:=wH hlen;obtain⟨y0,y1,rfl⟩:=wH (l:=xs) (by simpa using lK);have a0:=aw 0 _ rfl;have a1:=aw 1 _ rfl;simp[gD]at a0 a1;obtain⟨k0,e0,_,s0⟩:=DataW.trod_string Tryz.underlying9 a0;obtain⟨k1,e1,_,s1⟩:=DataW.trod_string Tryz.underlying9 a1;simp only[List.cons.injEq,and_true]at e0 e1;subst e0 e1;exact⟨⟨k0,k1⟩,rfl,s0,s1⟩
theorem t9 {fuel:Nat} {v:Value} {x:DataW H×List MemPlace} (h:DataW.trod enc Tryz.prog W base sp held fuel 24 [v]=some x):∃ ms,oo W v ms:=by
 rcases open_slice Tryz.underlying24 h with⟨bP,_⟩|⟨a,len,cap,m,n,D,Pl,bP,_,hl,hm,g9,_,hc⟩
 ·simp only[List.cons.injEq,and_true]at bP;exact⟨[],Or.inl ⟨none,0,bP,rfl⟩⟩
 ·simp only[List.cons.injEq,and_true]at bP;rw[wT]at hc;have hle:len≤m:=by rw[g9];split<;>omega
  by_cases h0:len=0
  ·subst h0;exact⟨[],Or.inl ⟨some a,cap,bP,rfl⟩⟩
  ·obtain⟨b,off,spot⟩:=a;have first:∀ i,i<m→∃ gK,(∀ j,j<2→W.cell? ((Addr.add ⟨b,off,spot⟩ (i*2)).add j)=gK[j]?)∧DataW.trod enc Tryz.prog W base sp held n 92 gK=some (D i,Pl i):=by
    intro i hi;obtain⟨gK,h1,h2⟩:=hc i hi;exact⟨gK,(World.cells?_some h1).2.2,h2⟩
   have gu:spot=none:=by
    obtain⟨gK,h1,h2⟩:=first 0 (by omega)
    obtain⟨md,rfl,_⟩:=qf h2;have:=h1 0 (by omega);simp[Addr.add]at this;simpa using World.cell?_spot this
   subst gu;have each:∀ i,i<len→∃ md:Tm,lD W b (off+i*2) md:=by
    intro i hi;obtain⟨gK,h1,h2⟩:=first i (by omega)
    obtain⟨md,rfl,hs⟩:=qf h2;rw[dm]at h1;have g:∀ j,j<2→W.cell? ⟨b,off+i*2+j,none⟩=[Value.string md.nm,.string md.ov][j]? :=by
     intro j hj;have:=h1 j hj;rw[dm]at this;exact this
    exact⟨md,g 0 (by omega),g 1 (by omega),hs⟩
   obtain⟨ms,jg,ea⟩:=fW Tm.none each;have vP:=ea 0 (by omega);refine⟨ms,Or.inr ⟨b,off,cap,by rw[jg];exact bP,gN vP.c0,by omega,fun i hi=> ?_⟩⟩;exact ea i (by omega)
end
end Go.Proofs.YtbiokpmdghmgcaaGreat
