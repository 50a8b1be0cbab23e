import Derived.Test.YtbiokpmdghmgcaaGreatMemB
import Derived.Test.YtbiokpmdghmgcaaGreatOpenF
import Derived.Test.YtbiokpmdghmgcaaGreatOpenR
namespace Go.Proofs.YtbiokpmdghmgcaaGreat
open Go.ChangeShapes Go.WideShapes Go.ChangeAt Go.RowKit Go.Deep
theorem xU:Tryz.prog.cellsOf 32=7:=by kernel_rfl
theorem zJ:Tryz.prog.cellsOf 27=1:=by kernel_rfl
theorem AL:Tryz.prog.cellsOf 28=1:=by kernel_rfl
theorem AT:Tryz.prog.cellsOf 29=1:=by kernel_rfl
theorem Bs:Tryz.prog.cellsOf 30=1:=by kernel_rfl
theorem DA:Tryz.prog.cellsOf 96=7:=by kernel_rfl
theorem wA:Tryz.prog.cellsOf 102=7:=by kernel_rfl
theorem CU:Tryz.prog.cellsOf 100=4:=by kernel_rfl
theorem wy:Tryz.prog.cellsOf 105=4:=by kernel_rfl
theorem vT:Tryz.prog.cellsOf 108=5:=by kernel_rfl
theorem uD {α:Type} {l:List α} (h:l.length=4):∃ c0 c1 c2 c3,l=[c0,c1,c2,c3]:=by
 match l,h with
 |[c0,c1,c2,c3],_=>exact⟨c0,c1,c2,c3,rfl⟩
theorem Ag {α:Type} {l:List α} (h:l.length=5):∃ c0 c1 c2 c3 c4,l=[c0,c1,c2,c3,c4]:=by
 match l,h with
 |[c0,c1,c2,c3,c4],_=>exact⟨c0,c1,c2,c3,c4,rfl⟩
theorem vd {α:Type} {l:List α} (h:l.length=7):∃ c0 c1 c2 c3 c4 c5 c6,l=[c0,c1,c2,c3,c4,c5,c6]:=by
 match l,h with
 |[c0,c1,c2,c3,c4,c5,c6],_=>exact⟨c0,c1,c2,c3,c4,c5,c6,rfl⟩
section
variable {H:Type} {enc:TypeId×Value→H} {W:World} {base:Nat} {sp:Nat→Bool} {held:Bool}
theorem wt {fuel:Nat} {cs:List Value} {x:DataW H×List MemPlace} (h:DataW.trod enc Tryz.prog W base sp held fuel 105 cs=some x):
  ∃ m:Lg,cs=[.string m.team,.string m.res,.int .i64 m.most,.int .i64 m.free]∧m.sized:=by
 obtain⟨xs,n,_,_,hlen,lK,aw⟩:=DataW.trod_struct Tryz.underlying105 h;rw[wy]at hlen;obtain⟨c0,c1,c2,c3,rfl⟩:=uD hlen;obtain⟨y0,y1,y2,y3,rfl⟩:=uD (l:=xs) (by simpa using lK);have a0:=aw 0 _ rfl;have a1:=aw 1 _ rfl;have a2:=aw 2 _ rfl;have a3:=aw 3 _ rfl;simp[gD,ko]at a0 a1 a2 a3;obtain⟨k0,e0,_,s0⟩:=DataW.trod_string Tryz.underlying9 a0;obtain⟨k1,e1,_,s1⟩:=DataW.trod_string Tryz.underlying9 a1;obtain⟨k2,e2,_,_⟩:=DataW.trod_int Tryz.underlying3 a2;obtain⟨k3,e3,_,_⟩:=DataW.trod_int Tryz.underlying3 a3;simp only[List.cons.injEq,and_true]at e0 e1 e2 e3;subst e0 e1 e2 e3;exact⟨⟨k0,k1,k2,k3⟩,rfl,s0,s1⟩
theorem vW {fuel:Nat} {cs:List Value} {x:DataW H×List MemPlace} (h:DataW.trod enc Tryz.prog W base sp held fuel 108 cs=some x):
  ∃ m:Ps,cs=[.string m.door,.string m.team,.string m.res,.int .i64 m.amount,.int .i64 m.til]∧m.sized:=by
 obtain⟨xs,n,_,_,hlen,lK,aw⟩:=DataW.trod_struct Tryz.underlying108 h;rw[vT]at hlen;obtain⟨c0,c1,c2,c3,c4,rfl⟩:=Ag hlen;obtain⟨y0,y1,y2,y3,y4,rfl⟩:=Ag (l:=xs) (by simpa using lK);have a0:=aw 0 _ rfl;have a1:=aw 1 _ rfl;have a2:=aw 2 _ rfl;have a3:=aw 3 _ rfl;have a4:=aw 4 _ rfl;simp[gD,ko]at a0 a1 a2 a3 a4;obtain⟨k0,e0,_,s0⟩:=DataW.trod_string Tryz.underlying9 a0;obtain⟨k1,e1,_,s1⟩:=DataW.trod_string Tryz.underlying9 a1;obtain⟨k2,e2,_,s2⟩:=DataW.trod_string Tryz.underlying9 a2;obtain⟨k3,e3,_,_⟩:=DataW.trod_int Tryz.underlying3 a3;obtain⟨k4,e4,_,_⟩:=DataW.trod_int Tryz.underlying3 a4;simp only[List.cons.injEq,and_true]at e0 e1 e2 e3 e4;subst e0 e1 e2 e3 e4;exact⟨⟨k0,k1,k2,k3,k4⟩,rfl,s0,s1,s2⟩
theorem Bu {fuel:Nat} {v:Value} {x:DataW H×List MemPlace} (h:DataW.trod enc Tryz.prog W base sp held fuel 29 [v]=some x):∃ ms,ox W v ms:=by
 rcases open_slice Tryz.underlying29 h with⟨bP,_⟩|⟨a,len,cap,m,n,D,Pl,bP,_,hl,hm,g9,_,hc⟩
 ·simp only[List.cons.injEq,and_true]at bP;exact⟨[],Or.inl ⟨none,0,bP,rfl⟩⟩
 ·simp only[List.cons.injEq,and_true]at bP;rw[wy]at hc;have hle:len≤m:=by rw[g9];split<;>omega
  by_cases h0:len=0
  ·subst h0;exact⟨[],Or.inl ⟨some a,cap,bP,rfl⟩⟩
  ·obtain⟨b,off,spot⟩:=a;have first:∀ i,i<m→∃ gK,(∀ j,j<4→W.cell? ((Addr.add ⟨b,off,spot⟩ (i*4)).add j)=gK[j]?)∧DataW.trod enc Tryz.prog W base sp held n 105 gK=some (D i,Pl i):=by
    intro i hi;obtain⟨gK,h1,h2⟩:=hc i hi;exact⟨gK,(World.cells?_some h1).2.2,h2⟩
   have gu:spot=none:=by
    obtain⟨gK,h1,h2⟩:=first 0 (by omega)
    obtain⟨md,rfl,hs⟩:=wt h2;have:=h1 0 (by omega);simp[Addr.add]at this;simpa using World.cell?_spot this
   subst gu;have each:∀ i,i<len→∃ md:Lg,lr W b (off+i*4) md:=by
    intro i hi;obtain⟨gK,h1,h2⟩:=first i (by omega)
    obtain⟨md,rfl,hs⟩:=wt h2;rw[dm]at h1;have g:∀ j,j<4→W.cell? ⟨b,off+i*4+j,none⟩=[Value.string md.team,Value.string md.res,Value.int .i64 md.most,Value.int .i64 md.free][j]? :=by
     intro j hj;have:=h1 j hj;rw[dm]at this;exact this
    exact⟨md,g 0 (by omega),g 1 (by omega),g 2 (by omega),g 3 (by omega),hs⟩
   obtain⟨ms,jg,ea⟩:=fW Lg.none each;have vP:=(ea 0 (by omega)).c0;refine⟨ms,Or.inr ⟨b,off,cap,by rw[jg];exact bP,gN vP,by omega,fun i hi=> ?_⟩⟩;exact ea i (by omega)
theorem AV {fuel:Nat} {v:Value} {x:DataW H×List MemPlace} (h:DataW.trod enc Tryz.prog W base sp held fuel 30 [v]=some x):∃ ms,oW W v ms:=by
 rcases open_slice Tryz.underlying30 h with⟨bP,_⟩|⟨a,len,cap,m,n,D,Pl,bP,_,hl,hm,g9,_,hc⟩
 ·simp only[List.cons.injEq,and_true]at bP;exact⟨[],Or.inl ⟨none,0,bP,rfl⟩⟩
 ·simp only[List.cons.injEq,and_true]at bP;rw[vT]at hc;have hle:len≤m:=by rw[g9];split<;>omega
  by_cases h0:len=0
  ·subst h0;exact⟨[],Or.inl ⟨some a,cap,bP,rfl⟩⟩
  ·obtain⟨b,off,spot⟩:=a;have first:∀ i,i<m→∃ gK,(∀ j,j<5→W.cell? ((Addr.add ⟨b,off,spot⟩ (i*5)).add j)=gK[j]?)∧DataW.trod enc Tryz.prog W base sp held n 108 gK=some (D i,Pl i):=by
    intro i hi;obtain⟨gK,h1,h2⟩:=hc i hi;exact⟨gK,(World.cells?_some h1).2.2,h2⟩
   have gu:spot=none:=by
    obtain⟨gK,h1,h2⟩:=first 0 (by omega)
    obtain⟨md,rfl,hs⟩:=vW h2;have:=h1 0 (by omega);simp[Addr.add]at this;simpa using World.cell?_spot this
   subst gu;have each:∀ i,i<len→∃ md:Ps,lf W b (off+i*5) md:=by
    intro i hi;obtain⟨gK,h1,h2⟩:=first i (by omega)
    obtain⟨md,rfl,hs⟩:=vW h2;rw[dm]at h1;have g:∀ j,j<5→W.cell? ⟨b,off+i*5+j,none⟩=[Value.string md.door,Value.string md.team,Value.string md.res,Value.int .i64 md.amount,Value.int .i64 md.til][j]? :=by
     intro j hj;have:=h1 j hj;rw[dm]at this;exact this
    exact⟨md,g 0 (by omega),g 1 (by omega),g 2 (by omega),g 3 (by omega),g 4 (by omega),hs⟩
   obtain⟨ms,jg,ea⟩:=fW Ps.none each;have vP:=(ea 0 (by omega)).c0;refine⟨ms,Or.inr ⟨b,off,cap,by rw[jg];exact bP,gN vP,by omega,fun i hi=> ?_⟩⟩;exact ea i (by omega)
theorem Aa {fuel:Nat} {v:Value} {x:DataW H×List MemPlace} (h:DataW.trod enc Tryz.prog W base sp held fuel 27 [v]=some x):∃ ms,nR W v ms:=by
 rcases open_slice Tryz.underlying27 h with⟨bP,_⟩|⟨a,len,cap,m,n,D,Pl,bP,_,hl,hm,g9,_,hc⟩
 ·simp only[List.cons.injEq,and_true]at bP;exact⟨[],Or.inl ⟨none,0,bP,rfl⟩⟩
 ·simp only[List.cons.injEq,and_true]at bP;rw[DA]at hc;have hle:len≤m:=by rw[g9];split<;>omega
  by_cases h0:len=0
  ·subst h0;exact⟨[],Or.inl ⟨some a,cap,bP,rfl⟩⟩
  ·obtain⟨b,off,spot⟩:=a;have first:∀ i,i<m→∃ gK,(∀ j,j<7→W.cell? ((Addr.add ⟨b,off,spot⟩ (i*7)).add j)=gK[j]?)∧DataW.trod enc Tryz.prog W base sp held n 96 gK=some (D i,Pl i):=by
    intro i hi;obtain⟨gK,h1,h2⟩:=hc i hi;exact⟨gK,(World.cells?_some h1).2.2,h2⟩
   have gu:spot=none:=by
    obtain⟨gK,h1,h2⟩:=first 0 (by omega)
    obtain⟨md,u1,u2,rfl,hs,t1,t2⟩:=nb h2;have:=h1 0 (by omega);simp[Addr.add]at this;simpa using World.cell?_spot this
   subst gu;have each:∀ i,i<len→∃ md:Ob,ObC W b (off+i*7) md:=by
    intro i hi;obtain⟨gK,h1,h2⟩:=first i (by omega)
    obtain⟨md,u1,u2,rfl,hs,t1,t2⟩:=nb h2;rw[dm]at h1;have g:∀ j,j<7→W.cell? ⟨b,off+i*7+j,none⟩=[Value.string md.kind,.string md.name,.string md.team,u1,.bool md.ending,u2,.int .i64 md.version][j]? :=by
     intro j hj;have:=h1 j hj;rw[dm]at this;exact this
    exact⟨md,u1,u2,g 0 (by omega),g 1 (by omega),g 2 (by omega),g 3 (by omega),g 4 (by omega),g 5 (by omega),g 6 (by omega),t1,t2,hs⟩
   obtain⟨ms,jg,ea⟩:=fW Ob.none each;obtain⟨_,_,vP,_⟩:=ea 0 (by omega);refine⟨ms,Or.inr ⟨b,off,cap,by rw[jg];exact bP,gN vP,by omega,fun i hi=> ?_⟩⟩;exact ea i (by omega)
theorem oR {fuel:Nat} {cs:List Value} {x:DataW H×List MemPlace} (h:DataW.trod enc Tryz.prog W base sp held fuel 102 cs=some x):
  ∃ (m:Gr) (ra:Option Addr) (rc:Nat),cs=[Value.int .i64 m.number,.string m.too,.string m.by_,.slice ra m.rule.verbs.length rc,.string m.rule.kind,.string m.rule.team,.string m.rule.pre]∧iv W (.slice ra m.rule.verbs.length rc) m.rule.verbs∧m.sized:=by
 obtain⟨xs,n,_,_,hlen,lK,aw⟩:=DataW.trod_struct Tryz.underlying102 h;rw[wA]at hlen;obtain⟨c0,c1,c2,c3,c4,c5,c6,rfl⟩:=vd hlen;obtain⟨y0,y1,y2,y3,rfl⟩:=uD (l:=xs) (by simpa using lK);have a0:=aw 0 _ rfl;have a1:=aw 1 _ rfl;have a2:=aw 2 _ rfl;have a3:=aw 3 _ rfl;simp[gD,ko,CU]at a0 a1 a2 a3;obtain⟨k0,e0,_,_⟩:=DataW.trod_int Tryz.underlying3 a0;obtain⟨k1,e1,_,s1⟩:=DataW.trod_string Tryz.underlying9 a1;obtain⟨k2,e2,_,s2⟩:=DataW.trod_string Tryz.underlying9 a2;obtain⟨r,ra,rc,hr,hl,hs,hi⟩:=xA a3;simp only[List.cons.injEq,and_true]at e0 e1 e2 hr;obtain⟨rfl,rfl,rfl,rfl⟩:=hr;subst e0 e1 e2;exact⟨⟨k0,k1,k2,r⟩,ra,rc,rfl,hi,s1,s2,hl,hs⟩
theorem Bq {fuel:Nat} {v:Value} {x:DataW H×List MemPlace} (h:DataW.trod enc Tryz.prog W base sp held fuel 28 [v]=some x):∃ ms,nS W v ms:=by
 rcases open_slice Tryz.underlying28 h with⟨bP,_⟩|⟨a,len,cap,m,n,D,Pl,bP,_,hl,hm,g9,_,hc⟩
 ·simp only[List.cons.injEq,and_true]at bP;exact⟨[],Or.inl ⟨none,0,bP,rfl⟩⟩
 ·simp only[List.cons.injEq,and_true]at bP;rw[wA]at hc;have hle:len≤m:=by rw[g9];split<;>omega
  by_cases h0:len=0
  ·subst h0;exact⟨[],Or.inl ⟨some a,cap,bP,rfl⟩⟩
  ·obtain⟨b,off,spot⟩:=a;have first:∀ i,i<m→∃ gK,(∀ j,j<7→W.cell? ((Addr.add ⟨b,off,spot⟩ (i*7)).add j)=gK[j]?)∧DataW.trod enc Tryz.prog W base sp held n 102 gK=some (D i,Pl i):=by
    intro i hi;obtain⟨gK,h1,h2⟩:=hc i hi;exact⟨gK,(World.cells?_some h1).2.2,h2⟩
   have gu:spot=none:=by
    obtain⟨gK,h1,h2⟩:=first 0 (by omega)
    obtain⟨md,ra,rc,rfl,wX,hs⟩:=oR h2;have:=h1 0 (by omega);simp[Addr.add]at this;simpa using World.cell?_spot this
   subst gu;have each:∀ i,i<len→∃ md:Gr,GrC W b (off+i*7) md:=by
    intro i hi;obtain⟨gK,h1,h2⟩:=first i (by omega)
    obtain⟨md,ra,rc,rfl,wX,hs⟩:=oR h2;rw[dm]at h1;have g:∀ j,j<7→W.cell? ⟨b,off+i*7+j,none⟩=[Value.int .i64 md.number,.string md.too,.string md.by_,.slice ra md.rule.verbs.length rc,.string md.rule.kind,.string md.rule.team,.string md.rule.pre][j]? :=by
     intro j hj;have:=h1 j hj;rw[dm]at this;exact this
    exact⟨md,ra,rc,g 0 (by omega),g 1 (by omega),g 2 (by omega),g 3 (by omega),g 4 (by omega),g 5 (by omega),g 6 (by omega),wX,hs⟩
   obtain⟨ms,jg,ea⟩:=fW Gr.none each;obtain⟨_,_,vP,_⟩:=ea 0 (by omega);refine⟨ms,Or.inr ⟨b,off,cap,by rw[jg];exact bP,gN vP,by omega,fun i hi=> ?_⟩⟩;exact ea i (by omega)
theorem xW {fuel:Nat} {cs:List Value} {x:DataW H×List MemPlace} (h:DataW.trod enc Tryz.prog W base sp held fuel 32 cs=some x):
  ∃ (K:Bk) (v0 v1 v2 v3:Value),cs=[.int .i64 K.now,.int .i64 K.tick,.int .i64 K.given,v0,v1,v2,v3]∧uJ W v0 v1 v2 v3 K:=by
 obtain⟨xs,n,_,_,hlen,lK,aw⟩:=DataW.trod_struct Tryz.underlying32 h;rw[xU]at hlen;obtain⟨c0,c1,c2,c3,c4,c5,c6,rfl⟩:=vd hlen;obtain⟨y0,y1,y2,y3,y4,y5,y6,rfl⟩:=vd (l:=xs) (by simpa using lK);have a0:=aw 0 _ rfl;have a1:=aw 1 _ rfl;have a2:=aw 2 _ rfl;have a3:=aw 3 _ rfl;have a4:=aw 4 _ rfl;have a5:=aw 5 _ rfl;have a6:=aw 6 _ rfl;simp[ko,zJ,AL,AT,Bs]at a0 a1 a2 a3 a4 a5 a6;obtain⟨k0,e0,_,_⟩:=DataW.trod_int Tryz.underlying3 a0;obtain⟨k1,e1,_,_⟩:=DataW.trod_int Tryz.underlying3 a1;obtain⟨k2,e2,_,_⟩:=DataW.trod_int Tryz.underlying3 a2;obtain⟨os,h0⟩:=Aa a3;obtain⟨gs,h1⟩:=Bq a4;obtain⟨ls,h2⟩:=Bu a5;obtain⟨ps,h3⟩:=AV a6;simp only[List.cons.injEq,and_true]at e0 e1 e2;subst e0 e1 e2;exact⟨⟨k0,k1,k2,os,gs,ls,ps⟩,c3,c4,c5,c6,rfl,h0,h1,h2,h3⟩
end
end Go.Proofs.YtbiokpmdghmgcaaGreat
