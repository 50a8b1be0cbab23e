import Derived.Test.YtbiokpmdghmgcaaGreatMemB
import Derived.Test.YtbiokpmdghmgcaaGreatOpenF
import Derived.Test.YtbiokpmdghmgcaaGreatOpenR
namespace Go.Proofs.YtbiokpmdghmgcaaGreat
open Go.ChangeShapes Go.WideShapes Go.ChangeAt Go.RowKit Go.Deep
theorem vY:Tryz.prog.cellsOf 32=7:=by kernel_rfl
theorem zg:Tryz.prog.cellsOf 27=1:=by kernel_rfl
theorem zj:Tryz.prog.cellsOf 28=1:=by kernel_rfl
theorem Ai:Tryz.prog.cellsOf 29=1:=by kernel_rfl
theorem zV:Tryz.prog.cellsOf 30=1:=by kernel_rfl
theorem By:Tryz.prog.cellsOf 96=7:=by kernel_rfl
theorem vg:Tryz.prog.cellsOf 102=7:=by kernel_rfl
theorem Cg:Tryz.prog.cellsOf 100=4:=by kernel_rfl
theorem vw:Tryz.prog.cellsOf 105=4:=by kernel_rfl
theorem vj:Tryz.prog.cellsOf 108=5:=by kernel_rfl
theorem tZ {α:Type} {l:List α} (h:l.length=4):∃ c0 c1 c2 c3,l=[c0,c1,c2,c3]:=by
 match l,h with
 |[c0,c1,c2,c3],_=>exact⟨c0,c1,c2,c3,rfl⟩
theorem z7 {α:Type} {l:List α} (h:l.length=5):∃ c0 c1 c2 c3 c4,l=[c0,c1,c2,c3,c4]:=by
 match l,h with
 |[c0,c1,c2,c3,c4],_=>exact⟨c0,c1,c2,c3,c4,rfl⟩
theorem tj {α:Type} {l:List α} (h:l.length=7):∃ c0 c1 c2 c3 c4 c5 c6,l=[c0,c1,c2,c3,c4,c5,c6]:=by
 match l,h with
 |[c0,c1,c2,c3,c4,c5,c6],_=>exact⟨c0,c1,c2,c3,c4,c5,c6,rfl⟩
section
variable {H:Type} {enc:TypeId×Value→H} {W:World} {base:Nat} {sp:Nat→Bool} {held:Bool}
theorem vf {fuel:Nat} {cs:List Value} {x:DataW H×List MemPlace} (h:DataW.trod enc Tryz.prog W base sp held fuel 105 cs=some x):
  ∃ m:Lg,cs=[.string m.team,.string m.res,.int .i64 m.most,.int .i64 m.free]∧m.sized:=by
 obtain⟨xs,n,_,_,hlen,lW,av⟩:=DataW.trod_struct Tryz.underlying105 h;rw[vw]at hlen;obtain⟨c0,c1,c2,c3,rfl⟩:=tZ hlen;obtain⟨y0,y1,y2,y3,rfl⟩:=tZ (l:=xs) (by simpa using lW);have a0:=av 0 _ rfl;have a1:=av 1 _ rfl;have a2:=av 2 _ rfl;have a3:=av 3 _ rfl;simp[gN,kT]at a0 a1 a2 a3;obtain⟨k0,e0,_,s0⟩:=DataW.trod_string Tryz.underlying9 a0;obtain⟨k1,e1,_,s1⟩:=DataW.trod_string Tryz.underlying9 a1;obtain⟨k2,e2,_,_⟩:=DataW.trod_int Tryz.underlying3 a2;obtain⟨k3,e3,_,_⟩:=DataW.trod_int Tryz.underlying3 a3;simp only[List.cons.injEq,and_true]at e0 e1 e2 e3;subst e0 e1 e2 e3;exact⟨⟨k0,k1,k2,k3⟩,rfl,s0,s1⟩
theorem vz {fuel:Nat} {cs:List Value} {x:DataW H×List MemPlace} (h:DataW.trod enc Tryz.prog W base sp held fuel 108 cs=some x):
  ∃ m:Ps,cs=[.string m.door,.string m.team,.string m.res,.int .i64 m.amount,.int .i64 m.til]∧m.sized:=by
 obtain⟨xs,n,_,_,hlen,lW,av⟩:=DataW.trod_struct Tryz.underlying108 h;rw[vj]at hlen;obtain⟨c0,c1,c2,c3,c4,rfl⟩:=z7 hlen;obtain⟨y0,y1,y2,y3,y4,rfl⟩:=z7 (l:=xs) (by simpa using lW);have a0:=av 0 _ rfl;have a1:=av 1 _ rfl;have a2:=av 2 _ rfl;have a3:=av 3 _ rfl;have a4:=av 4 _ rfl;simp[gN,kT]at a0 a1 a2 a3 a4;obtain⟨k0,e0,_,s0⟩:=DataW.trod_string Tryz.underlying9 a0;obtain⟨k1,e1,_,s1⟩:=DataW.trod_string Tryz.underlying9 a1;obtain⟨k2,e2,_,s2⟩:=DataW.trod_string Tryz.underlying9 a2;obtain⟨k3,e3,_,_⟩:=DataW.trod_int Tryz.underlying3 a3;obtain⟨k4,e4,_,_⟩:=DataW.trod_int Tryz.underlying3 a4;simp only[List.cons.injEq,and_true]at e0 e1 e2 e3 e4;subst e0 e1 e2 e3 e4;exact⟨⟨k0,k1,k2,k3,k4⟩,rfl,s0,s1,s2⟩
theorem yM {fuel:Nat} {v:Value} {x:DataW H×List MemPlace} (h:DataW.trod enc Tryz.prog W base sp held fuel 29 [v]=some x):∃ ms,oi W v ms:=by
 rcases open_slice Tryz.underlying29 h with⟨bS,_⟩|⟨a,len,cap,m,n,D,Pl,bS,_,hl,hm,gT,_,hc⟩
 ·simp only[List.cons.injEq,and_true]at bS;exact⟨[],Or.inl ⟨none,0,bS,rfl⟩⟩
 ·simp only[List.cons.injEq,and_true]at bS;rw[vw]at hc;have hle:len≤m:=by rw[gT];split<;>omega
  by_cases h0:len=0
  ·subst h0;exact⟨[],Or.inl ⟨some a,cap,bS,rfl⟩⟩
  ·obtain⟨b,off,spot⟩:=a;have first:∀ i,i<m→∃ gu,(∀ j,j<4→W.cell? ((Addr.add ⟨b,off,spot⟩ (i*4)).add j)=gu[j]?)∧DataW.trod enc Tryz.prog W base sp held n 105 gu=some (D i,Pl i):=by
    intro i hi;obtain⟨gu,h1,h2⟩:=hc i hi;exact⟨gu,(World.cells?_some h1).2.2,h2⟩
   have gh:spot=none:=by
    obtain⟨gu,h1,h2⟩:=first 0 (by omega)
    obtain⟨md,rfl,hs⟩:=vf h2;have:=h1 0 (by omega);simp[Addr.add]at this;simpa using World.cell?_spot this
   subst gh;have each:∀ i,i<len→∃ md:Lg,lf W b (off+i*4) md:=by
    intro i hi;obtain⟨gu,h1,h2⟩:=first i (by omega)
    obtain⟨md,rfl,hs⟩:=vf h2;rw[dm]at h1;have g:∀ j,j<4→W.cell? ⟨b,off+i*4+j,none⟩=[Value.string md.team,Value.string md.res,Value.int .i64 md.most,Value.int .i64 md.free][j]? :=by
     intro j hj;have:=h1 j hj;rw[dm]at this;exact this
    exact⟨md,g 0 (by omega),g 1 (by omega),g 2 (by omega),g 3 (by omega),hs⟩
   obtain⟨ms,iZ,dV⟩:=fO Lg.none each;have uG:=(dV 0 (by omega)).c0;refine⟨ms,Or.inr ⟨b,off,cap,by rw[iZ];exact bS,gB uG,by omega,fun i hi=> ?_⟩⟩;exact dV i (by omega)
theorem Aq {fuel:Nat} {v:Value} {x:DataW H×List MemPlace} (h:DataW.trod enc Tryz.prog W base sp held fuel 30 [v]=some x):∃ ms,nI W v ms:=by
 rcases open_slice Tryz.underlying30 h with⟨bS,_⟩|⟨a,len,cap,m,n,D,Pl,bS,_,hl,hm,gT,_,hc⟩
 ·simp only[List.cons.injEq,and_true]at bS;exact⟨[],Or.inl ⟨none,0,bS,rfl⟩⟩
 ·simp only[List.cons.injEq,and_true]at bS;rw[vj]at hc;have hle:len≤m:=by rw[gT];split<;>omega
  by_cases h0:len=0
  ·subst h0;exact⟨[],Or.inl ⟨some a,cap,bS,rfl⟩⟩
  ·obtain⟨b,off,spot⟩:=a;have first:∀ i,i<m→∃ gu,(∀ j,j<5→W.cell? ((Addr.add ⟨b,off,spot⟩ (i*5)).add j)=gu[j]?)∧DataW.trod enc Tryz.prog W base sp held n 108 gu=some (D i,Pl i):=by
    intro i hi;obtain⟨gu,h1,h2⟩:=hc i hi;exact⟨gu,(World.cells?_some h1).2.2,h2⟩
   have gh:spot=none:=by
    obtain⟨gu,h1,h2⟩:=first 0 (by omega)
    obtain⟨md,rfl,hs⟩:=vz h2;have:=h1 0 (by omega);simp[Addr.add]at this;simpa using World.cell?_spot this
   subst gh;have each:∀ i,i<len→∃ md:Ps,ld W b (off+i*5) md:=by
    intro i hi;obtain⟨gu,h1,h2⟩:=first i (by omega)
    obtain⟨md,rfl,hs⟩:=vz h2;rw[dm]at h1;have g:∀ j,j<5→W.cell? ⟨b,off+i*5+j,none⟩=[Value.string md.door,Value.string md.team,Value.string md.res,Value.int .i64 md.amount,Value.int .i64 md.til][j]? :=by
     intro j hj;have:=h1 j hj;rw[dm]at this;exact this
    exact⟨md,g 0 (by omega),g 1 (by omega),g 2 (by omega),g 3 (by omega),g 4 (by omega),hs⟩
   obtain⟨ms,iZ,dV⟩:=fO Ps.none each;have uG:=(dV 0 (by omega)).c0;refine⟨ms,Or.inr ⟨b,off,cap,by rw[iZ];exact bS,gB uG,by omega,fun i hi=> ?_⟩⟩;exact dV i (by omega)
theorem zd {fuel:Nat} {v:Value} {x:DataW H×List MemPlace} (h:DataW.trod enc Tryz.prog W base sp held fuel 27 [v]=some x):∃ ms,nR W v ms:=by
 rcases open_slice Tryz.underlying27 h with⟨bS,_⟩|⟨a,len,cap,m,n,D,Pl,bS,_,hl,hm,gT,_,hc⟩
 ·simp only[List.cons.injEq,and_true]at bS;exact⟨[],Or.inl ⟨none,0,bS,rfl⟩⟩
 ·simp only[List.cons.injEq,and_true]at bS;rw[By]at hc;have hle:len≤m:=by rw[gT];split<;>omega
  by_cases h0:len=0
  ·subst h0;exact⟨[],Or.inl ⟨some a,cap,bS,rfl⟩⟩
  ·obtain⟨b,off,spot⟩:=a;have first:∀ i,i<m→∃ gu,(∀ j,j<7→W.cell? ((Addr.add ⟨b,off,spot⟩ (i*7)).add j)=gu[j]?)∧DataW.trod enc Tryz.prog W base sp held n 96 gu=some (D i,Pl i):=by
    intro i hi;obtain⟨gu,h1,h2⟩:=hc i hi;exact⟨gu,(World.cells?_some h1).2.2,h2⟩
   have gh:spot=none:=by
    obtain⟨gu,h1,h2⟩:=first 0 (by omega)
    obtain⟨md,u1,u2,rfl,hs,t1,t2⟩:=mJ h2;have:=h1 0 (by omega);simp[Addr.add]at this;simpa using World.cell?_spot this
   subst gh;have each:∀ i,i<len→∃ md:Ob,ObC W b (off+i*7) md:=by
    intro i hi;obtain⟨gu,h1,h2⟩:=first i (by omega)
    obtain⟨md,u1,u2,rfl,hs,t1,t2⟩:=mJ h2;rw[dm]at h1;have g:∀ j,j<7→W.cell? ⟨b,off+i*7+j,none⟩=[Value.string md.kind,.string md.name,.string md.team,u1,.bool md.ending,u2,.int .i64 md.version][j]? :=by
     intro j hj;have:=h1 j hj;rw[dm]at this;exact this
    exact⟨md,u1,u2,g 0 (by omega),g 1 (by omega),g 2 (by omega),g 3 (by omega),g 4 (by omega),g 5 (by omega),g 6 (by omega),t1,t2,hs⟩
   obtain⟨ms,iZ,dV⟩:=fO Ob.none each;obtain⟨_,_,uG,_⟩:=dV 0 (by omega);refine⟨ms,Or.inr ⟨b,off,cap,by rw[iZ];exact bS,gB uG,by omega,fun i hi=> ?_⟩⟩;exact dV i (by omega)
theorem nE {fuel:Nat} {cs:List Value} {x:DataW H×List MemPlace} (h:DataW.trod enc Tryz.prog W base sp held fuel 102 cs=some x):
  ∃ (m:Gr) (ra:Option Addr) (rc:Nat),cs=[Value.int .i64 m.number,.string m.too,.string m.by_,.slice ra m.rule.verbs.length rc,.string m.rule.kind,.string m.rule.team,.string m.rule.pre]∧ie W (.slice ra m.rule.verbs.length rc) m.rule.verbs∧m.sized:=by
 obtain⟨xs,n,_,_,hlen,lW,av⟩:=DataW.trod_struct Tryz.underlying102 h;rw[vg]at hlen;obtain⟨c0,c1,c2,c3,c4,c5,c6,rfl⟩:=tj hlen;obtain⟨y0,y1,y2,y3,rfl⟩:=tZ (l:=xs) (by simpa using lW);have a0:=av 0 _ rfl;have a1:=av 1 _ rfl;have a2:=av 2 _ rfl;have a3:=av 3 _ rfl;simp[gN,kT,Cg]at a0 a1 a2 a3;obtain⟨k0,e0,_,_⟩:=DataW.trod_int Tryz.underlying3 a0;obtain⟨k1,e1,_,s1⟩:=DataW.trod_string Tryz.underlying9 a1;obtain⟨k2,e2,_,s2⟩:=DataW.trod_string Tryz.underlying9 a2;obtain⟨r,ra,rc,hr,hl,hs,hi⟩:=xE a3;simp only[List.cons.injEq,and_true]at e0 e1 e2 hr;obtain⟨rfl,rfl,rfl,rfl⟩:=hr;subst e0 e1 e2;exact⟨⟨k0,k1,k2,r⟩,ra,rc,rfl,hi,s1,s2,hl,hs⟩
theorem zC {fuel:Nat} {v:Value} {x:DataW H×List MemPlace} (h:DataW.trod enc Tryz.prog W base sp held fuel 28 [v]=some x):∃ ms,oc W v ms:=by
 rcases open_slice Tryz.underlying28 h with⟨bS,_⟩|⟨a,len,cap,m,n,D,Pl,bS,_,hl,hm,gT,_,hc⟩
 ·simp only[List.cons.injEq,and_true]at bS;exact⟨[],Or.inl ⟨none,0,bS,rfl⟩⟩
 ·simp only[List.cons.injEq,and_true]at bS;rw[vg]at hc;have hle:len≤m:=by rw[gT];split<;>omega
  by_cases h0:len=0
  ·subst h0;exact⟨[],Or.inl ⟨some a,cap,bS,rfl⟩⟩
  ·obtain⟨b,off,spot⟩:=a;have first:∀ i,i<m→∃ gu,(∀ j,j<7→W.cell? ((Addr.add ⟨b,off,spot⟩ (i*7)).add j)=gu[j]?)∧DataW.trod enc Tryz.prog W base sp held n 102 gu=some (D i,Pl i):=by
    intro i hi;obtain⟨gu,h1,h2⟩:=hc i hi;exact⟨gu,(World.cells?_some h1).2.2,h2⟩
   have gh:spot=none:=by
    obtain⟨gu,h1,h2⟩:=first 0 (by omega)
    obtain⟨md,ra,rc,rfl,yj,hs⟩:=nE h2;have:=h1 0 (by omega);simp[Addr.add]at this;simpa using World.cell?_spot this
   subst gh;have each:∀ i,i<len→∃ md:Gr,GrC W b (off+i*7) md:=by
    intro i hi;obtain⟨gu,h1,h2⟩:=first i (by omega)
    obtain⟨md,ra,rc,rfl,yj,hs⟩:=nE h2;rw[dm]at h1;have g:∀ j,j<7→W.cell? ⟨b,off+i*7+j,none⟩=[Value.int .i64 md.number,.string md.too,.string md.by_,.slice ra md.rule.verbs.length rc,.string md.rule.kind,.string md.rule.team,.string md.rule.pre][j]? :=by
     intro j hj;have:=h1 j hj;rw[dm]at this;exact this
    exact⟨md,ra,rc,g 0 (by omega),g 1 (by omega),g 2 (by omega),g 3 (by omega),g 4 (by omega),g 5 (by omega),g 6 (by omega),yj,hs⟩
   obtain⟨ms,iZ,dV⟩:=fO Gr.none each;obtain⟨_,_,uG,_⟩:=dV 0 (by omega);refine⟨ms,Or.inr ⟨b,off,cap,by rw[iZ];exact bS,gB uG,by omega,fun i hi=> ?_⟩⟩;exact dV i (by omega)
theorem wX {fuel:Nat} {cs:List Value} {x:DataW H×List MemPlace} (h:DataW.trod enc Tryz.prog W base sp held fuel 32 cs=some x):
  ∃ (K:Bk) (v0 v1 v2 v3:Value),cs=[.int .i64 K.now,.int .i64 K.tick,.int .i64 K.given,v0,v1,v2,v3]∧s8 W v0 v1 v2 v3 K:=by
 obtain⟨xs,n,_,_,hlen,lW,av⟩:=DataW.trod_struct Tryz.underlying32 h;rw[vY]at hlen;obtain⟨c0,c1,c2,c3,c4,c5,c6,rfl⟩:=tj hlen;obtain⟨y0,y1,y2,y3,y4,y5,y6,rfl⟩:=tj (l:=xs) (by simpa using lW);have a0:=av 0 _ rfl;have a1:=av 1 _ rfl;have a2:=av 2 _ rfl;have a3:=av 3 _ rfl;have a4:=av 4 _ rfl;have a5:=av 5 _ rfl;have a6:=av 6 _ rfl;simp[kT,zg,zj,Ai,zV]at a0 a1 a2 a3 a4 a5 a6;obtain⟨k0,e0,_,_⟩:=DataW.trod_int Tryz.underlying3 a0;obtain⟨k1,e1,_,_⟩:=DataW.trod_int Tryz.underlying3 a1;obtain⟨k2,e2,_,_⟩:=DataW.trod_int Tryz.underlying3 a2;obtain⟨os,h0⟩:=zd a3;obtain⟨gs,h1⟩:=zC a4;obtain⟨ls,h2⟩:=yM a5;obtain⟨ps,h3⟩:=Aq a6;simp only[List.cons.injEq,and_true]at e0 e1 e2;subst e0 e1 e2;exact⟨⟨k0,k1,k2,os,gs,ls,ps⟩,c3,c4,c5,c6,rfl,h0,h1,h2,h3⟩
end
end Go.Proofs.YtbiokpmdghmgcaaGreat
