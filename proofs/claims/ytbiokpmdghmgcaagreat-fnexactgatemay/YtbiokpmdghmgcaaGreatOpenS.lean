import Derived.Deep.Slices
import Derived.Test.YtbiokpmdghmgcaaGreatOpen
import Derived.Test.YtbiokpmdghmgcaaGreatMem
namespace Go.Proofs.YtbiokpmdghmgcaaGreat
open Go.ChangeShapes Go.WideShapes Go.ChangeAt Go.RowKit Go.Deep
theorem vY:Tryz.prog.cellsOf 86=2:=by kernel_rfl
theorem DQ:Tryz.prog.cellsOf 84=1:=by kernel_rfl
theorem dm (b off i:Nat):(Addr.add ⟨b,off,none⟩ i)=⟨b,off+i,none⟩:=by
 unfold Addr.add;split
 ·rename_i h;subst h;rfl
 ·rfl
theorem fW {α:Type} (d:α) {n:Nat} {p:Nat→α→Prop} (h:∀ i,i<n→∃ x,p i x):∃ l:List α,l.length=n∧∀ i,i<n→p i (l.getD i d):=by
 have:Inhabited α:=⟨d⟩
 obtain⟨f,hf⟩:=choose_lt h;refine⟨(List.range n).map f,by simp,fun i hi=> ?_⟩;have e:((List.range n).map f).getD i d=f i:=by simp[hi]
 rw[e];exact hf i hi
section
variable {H:Type} {enc:TypeId×Value→H} {W:World} {base:Nat} {sp:Nat→Bool} {held:Bool}
theorem rR {fuel:Nat} {v:Value} {x:DataW H×List MemPlace} (h:DataW.trod enc Tryz.prog W base sp held fuel 84 [v]=some x):∃ fs,jq W v fs:=by
 rcases open_slice Tryz.underlying84 h with⟨bP,_⟩|⟨a,len,cap,m,n,D,Pl,bP,_,hl,hm,g9,_,hc⟩
 ·simp only[List.cons.injEq,and_true]at bP;exact⟨[],Or.inl ⟨none,0,bP,rfl⟩⟩
 ·simp only[List.cons.injEq,and_true]at bP;rw[wI]at hc;have hle:len≤m:=by rw[g9];split<;>omega
  by_cases h0:len=0
  ·subst h0;exact⟨[],Or.inl ⟨some a,cap,bP,rfl⟩⟩
  ·obtain⟨b,off,spot⟩:=a;have first:∀ i,i<m→∃ gK,(∀ j,j<11→W.cell? ((Addr.add ⟨b,off,spot⟩ (i*11)).add j)=gK[j]?)∧DataW.trod enc Tryz.prog W base sp held n 222 gK=some (D i,Pl i):=by
    intro i hi;obtain⟨gK,h1,h2⟩:=hc i hi;exact⟨gK,(World.cells?_some h1).2.2,h2⟩
   have gu:spot=none:=by
    obtain⟨gK,h1,h2⟩:=first 0 (by omega)
    obtain⟨nm,kind,least,most,vs,to,role,must,fixed,de,we,ss,rfl,_⟩:=oT h2;have:=h1 0 (by omega);simp[Addr.add]at this;simpa using World.cell?_spot this
   subst gu;have each:∀ i,i<len→∃ f:Fld,∃ vs,j5 W b (off+i*11) f vs:=by
    intro i hi;obtain⟨gK,h1,h2⟩:=first i (by omega)
    obtain⟨nm,kind,least,most,vs,to,role,must,fixed,de,we,ss,rfl,s0,s5,s9,yL,ht⟩:=oT h2;rw[dm]at h1;have g:∀ j,j<11→W.cell? ⟨b,off+i*11+j,none⟩=[Value.string nm,.int .i64 kind,.int .i64 least,.int .i64 most,vs,.string to,.int .i64 role,.bool must,.bool fixed,.string de,.string we][j]? :=by
     intro j hj;have:=h1 j hj;rw[dm]at this;exact this
    exact⟨⟨nm,kind,least,most,ss,to,role,must,fixed,de,we⟩,vs,g 0 (by omega),g 1 (by omega),g 2 (by omega),g 3 (by omega),g 4 (by omega),g 5 (by omega),g 6 (by omega),g 7 (by omega),g 8 (by omega),g 9 (by omega),g 10 (by omega),ht,⟨s0,s5,s9,yL⟩⟩
   obtain⟨fs,jg,ea⟩:=fW Fld.none each;obtain⟨vs0,vP⟩:=ea 0 (by omega);refine⟨fs,Or.inr ⟨b,off,cap,by rw[jg];exact bP,gN vP.c0,by omega,fun i hi=> ?_⟩⟩;exact ea i (by omega)
theorem wH {α:Type} {l:List α} (h:l.length=2):∃ c0 c1,l=[c0,c1]:=by
 match l,h with
 |[c0,c1],_=>exact⟨c0,c1,rfl⟩
theorem oF {fuel:Nat} {cs:List Value} {x:DataW H×List MemPlace} (h:DataW.trod enc Tryz.prog W base sp held fuel 86 cs=some x):
  ∃ (kind:ByteArray) (v:Value) (fs:List Fld),cs=[.string kind,v]∧kind.size≤maxLen∧jq W v fs:=by
 obtain⟨xs,n,_,_,hlen,lK,aw⟩:=DataW.trod_struct Tryz.underlying86 h;rw[vY]at hlen;obtain⟨c0,c1,rfl⟩:=wH hlen;obtain⟨y0,y1,rfl⟩:=wH (l:=xs) (by simpa using lK);have a0:=aw 0 _ rfl;have a1:=aw 1 _ rfl;simp[gD,DQ]at a0 a1;obtain⟨kind,e0,_,s0⟩:=DataW.trod_string Tryz.underlying9 a0;obtain⟨fs,t1⟩:=rR a1;simp only[List.cons.injEq,and_true]at e0;subst e0;exact⟨kind,c1,fs,rfl,s0,t1⟩
theorem sw {fuel:Nat} {v:Value} {x:DataW H×List MemPlace} (h:DataW.trod enc Tryz.prog W base sp held fuel 22 [v]=some x):∃ ss,ke W v ss:=by
 rcases open_slice Tryz.underlying22 h with⟨bP,_⟩|⟨a,len,cap,m,n,D,Pl,bP,_,hl,hm,g9,_,hc⟩
 ·simp only[List.cons.injEq,and_true]at bP;exact⟨[],Or.inl ⟨none,0,bP,rfl⟩⟩
 ·simp only[List.cons.injEq,and_true]at bP;rw[vY]at hc;have hle:len≤m:=by rw[g9];split<;>omega
  by_cases h0:len=0
  ·subst h0;exact⟨[],Or.inl ⟨some a,cap,bP,rfl⟩⟩
  ·obtain⟨b,off,spot⟩:=a;have first:∀ i,i<m→∃ gK,(∀ j,j<2→W.cell? ((Addr.add ⟨b,off,spot⟩ (i*2)).add j)=gK[j]?)∧DataW.trod enc Tryz.prog W base sp held n 86 gK=some (D i,Pl i):=by
    intro i hi;obtain⟨gK,h1,h2⟩:=hc i hi;exact⟨gK,(World.cells?_some h1).2.2,h2⟩
   have gu:spot=none:=by
    obtain⟨gK,h1,h2⟩:=first 0 (by omega)
    obtain⟨kind,v',fs,rfl,_⟩:=oF h2;have:=h1 0 (by omega);simp[Addr.add]at this;simpa using World.cell?_spot this
   subst gu;have each:∀ i,i<len→∃ s:Shp,∃ x,nM W b (off+i*2) s x:=by
    intro i hi;obtain⟨gK,h1,h2⟩:=first i (by omega)
    obtain⟨kind,v',fs,rfl,s0,ht⟩:=oF h2;rw[dm]at h1;have g:∀ j,j<2→W.cell? ⟨b,off+i*2+j,none⟩=[Value.string kind,v'][j]? :=by
     intro j hj;have:=h1 j hj;rw[dm]at this;exact this
    exact⟨⟨kind,fs⟩,v',g 0 (by omega),g 1 (by omega),ht,s0⟩
   obtain⟨ss,jg,ea⟩:=fW Shp.none each;obtain⟨vs0,vP⟩:=ea 0 (by omega);refine⟨ss,Or.inr ⟨b,off,cap,by rw[jg];exact bP,gN vP.c0,by omega,fun i hi=> ?_⟩⟩;exact ea i (by omega)
end
end Go.Proofs.YtbiokpmdghmgcaaGreat
