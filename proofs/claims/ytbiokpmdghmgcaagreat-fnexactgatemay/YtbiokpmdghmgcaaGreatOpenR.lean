import Derived.ChangeSlices
import Derived.Test.YtbiokpmdghmgcaaGreatOpenT
import Derived.Test.YtbiokpmdghmgcaaGreatMemR
namespace Go.Proofs.YtbiokpmdghmgcaaGreat
open Go.ChangeShapes Go.WideShapes Go.ChangeAt Go.RowKit Go.Deep
theorem Ds:Tryz.prog.cellsOf 98=1:=by kernel_rfl
theorem Dd:Tryz.prog.cellsOf 100=4:=by kernel_rfl
theorem CF:Tryz.prog.cellsOf 53=4:=by kernel_rfl
theorem wR {α:Type} {l:List α} (h:l.length=4):∃ c0 c1 c2 c3,l=[c0,c1,c2,c3]:=by
 match l,h with
 |[c0,c1,c2,c3],_=>exact⟨c0,c1,c2,c3,rfl⟩
section
variable {H:Type} {enc:TypeId×Value→H} {W:World} {base:Nat} {sp:Nat→Bool} {held:Bool}
theorem rh {fuel:Nat} {v:Value} {x:DataW H×List MemPlace} (h:DataW.trod enc Tryz.prog W base sp held fuel 98 [v]=some x):
  ∃ (a:Option Addr) (c:Nat) (l:List Int),v=.slice a l.length c∧l.length≤maxLen∧iv W v l:=by
 rcases open_ints Tryz.underlying98 Tryz.underlying3 ko h with⟨bP,_⟩|⟨a,len,cap,zs,bP,_,hl,hm,hz,_,hc,_⟩
 ·simp only[List.cons.injEq,and_true]at bP;exact⟨none,0,[],bP,nz,Or.inl ⟨none,0,bP,rfl⟩⟩
 ·simp only[List.cons.injEq,and_true]at bP;have hle:len≤zs.length:=by rw[hz];split<;>omega
  by_cases h0:len=0
  ·subst h0;exact⟨some a,cap,[],bP,nz,Or.inl ⟨some a,cap,bP,rfl⟩⟩
  ·obtain⟨b,off,spot⟩:=a;have vv:=hc 0 (by omega);have gu:spot=none:=by simpa [Addr.add]using World.cell?_spot vv
   subst gu;have hlen:(zs.take len).length=len:=by simp;omega
   refine⟨_,cap,zs.take len,by rw[hlen];exact bP,by rw[hlen];omega,Or.inr ⟨b,off,cap,by rw[hlen];exact bP,gN vv,by rw[hlen];omega,fun i hi=> ?_⟩⟩;rw[hlen]at hi;have e:(zs.take len).getD i 0=zs.getD i 0:=by simp[hi]
   rw[e];have:=hc i (by omega);rw[dm]at this;exact this
theorem xA {fuel:Nat} {cs:List Value} {x:DataW H×List MemPlace} (h:DataW.trod enc Tryz.prog W base sp held fuel 100 cs=some x):
  ∃ (r:Rul) (a:Option Addr) (c:Nat),cs=[.slice a r.verbs.length c,.string r.kind,.string r.team,.string r.pre]∧r.verbs.length≤maxLen∧r.sized∧iv W (.slice a r.verbs.length c) r.verbs:=by
 obtain⟨xs,n,_,_,hlen,lK,aw⟩:=DataW.trod_struct Tryz.underlying100 h;rw[Dd]at hlen;obtain⟨c0,c1,c2,c3,rfl⟩:=wR hlen;obtain⟨y0,y1,y2,y3,rfl⟩:=wR (l:=xs) (by simpa using lK);have a0:=aw 0 _ rfl;have a1:=aw 1 _ rfl;have a2:=aw 2 _ rfl;have a3:=aw 3 _ rfl;simp[gD,Ds]at a0 a1 a2 a3;obtain⟨a,c,l,e0,hl,t0⟩:=rh a0;obtain⟨k1,e1,_,s1⟩:=DataW.trod_string Tryz.underlying9 a1;obtain⟨k2,e2,_,s2⟩:=DataW.trod_string Tryz.underlying9 a2;obtain⟨k3,e3,_,s3⟩:=DataW.trod_string Tryz.underlying9 a3;simp only[List.cons.injEq,and_true]at e1 e2 e3;subst e0 e1 e2 e3;exact⟨⟨l,k1,k2,k3⟩,a,c,rfl,hl,⟨s1,s2,s3⟩,t0⟩
theorem yr {fuel:Nat} {cs:List Value} {x:DataW H×List MemPlace} (h:DataW.trod enc Tryz.prog W base sp held fuel 53 cs=some x):
  ∃ d:g7,cs=[.int .i64 d.verb,.string d.kind,.string d.team,.string d.name]∧d.sized:=by
 obtain⟨xs,n,_,_,hlen,lK,aw⟩:=DataW.trod_struct Tryz.underlying53 h;rw[CF]at hlen;obtain⟨c0,c1,c2,c3,rfl⟩:=wR hlen;obtain⟨y0,y1,y2,y3,rfl⟩:=wR (l:=xs) (by simpa using lK);have a0:=aw 0 _ rfl;have a1:=aw 1 _ rfl;have a2:=aw 2 _ rfl;have a3:=aw 3 _ rfl;simp[gD,ko]at a0 a1 a2 a3;obtain⟨v,e0,_,_⟩:=DataW.trod_int Tryz.underlying3 a0;obtain⟨k1,e1,_,s1⟩:=DataW.trod_string Tryz.underlying9 a1;obtain⟨k2,e2,_,s2⟩:=DataW.trod_string Tryz.underlying9 a2;obtain⟨k3,e3,_,s3⟩:=DataW.trod_string Tryz.underlying9 a3;simp only[List.cons.injEq,and_true]at e0 e1 e2 e3;subst e0 e1 e2 e3;exact⟨⟨v,k1,k2,k3⟩,rfl,s1,s2,s3⟩
end
end Go.Proofs.YtbiokpmdghmgcaaGreat
