import Derived.Deep.DeepCutAuto
import Derived.Test.YtbiokpmdghmgcaaGreatSumI
import Derived.Test.YtbiokpmdghmgcaaGreatObI
import Derived.Test.YtbiokpmdghmgcaaGreatBkO
namespace Go.Proofs.YtbiokpmdghmgcaaGreat
set_option maxRecDepth 8000
set_option maxHeartbeats 40000000
open Go.RowKit Go.Deep
theorem EG (a b:Int):wrap64 (wrap64 a+b)=wrap64 (a+b):=by unfold wrap64;omega
theorem zy (u o f a:Int):wrap64 (wrap64 (wrap64 (u+o)+f)+a)=wrap64 (wrap64 (u+wrap64 (o+a))+f):=by unfold wrap64;omega
theorem rK (L:Lw) (K:Bk) (i:Nat):∀ p,b9 L K i p=wrap64 (wrap64 (used L K (K.ledgers.getD i Lg.none).team (K.ledgers.getD i Lg.none).res+gP K.purses (K.ledgers.getD i Lg.none).team (K.ledgers.getD i Lg.none).res p)+(K.ledgers.getD i Lg.none).free)
 |0=>by rw[b9,gP,EG,Int.add_zero]
 |p+1=>by
  rw[b9,gP,rK L K i p];split
  ·exact zy _ _ _ _
  ·rfl
theorem xJ (L:Lw) (K:Bk) (i:Nat):b9 L K i K.purses.length=vi L K (K.ledgers.getD i Lg.none):=by
 rw[rK];rfl
theorem t9 {ls:List Lg} (h:gj ls=true):mh ls:=by
 intro i j hi hj he;obtain⟨h1,h2⟩:=rX he;have hr:=(mc ls).1 h;have aw:=ue (gX eZ eZ) hr;rcases Nat.lt_trichotomy i j with q|q|q
 ·have:=aw i j q hj;have hz:=((gX eZ eZ).z ((fun i=>((ls.getD i Lg.none).team.toList,(ls.getD i Lg.none).res.toList)) i) ((fun i=>((ls.getD i Lg.none).team.toList,(ls.getD i Lg.none).res.toList)) j)).2 (by show (_,_)=(_,_);rw[h1,h2]);exact absurd hz (Int.ne_of_lt this)
 ·exact q
 ·have:=aw j i q hi;have hz:=((gX eZ eZ).z ((fun i=>((ls.getD i Lg.none).team.toList,(ls.getD i Lg.none).res.toList)) j) ((fun i=>((ls.getD i Lg.none).team.toList,(ls.getD i Lg.none).res.toList)) i)).2 (by show (_,_)=(_,_);rw[h1,h2]);exact absurd hz (Int.ne_of_lt this)
theorem B6 (L:Lw) (K:Bk) (a0 a1 a2 e0 e1 e2 e3:Nat) (w:World) (hL:iy w a0 a1 a2 L) (hK:gp w e0 e1 e2 e3 K) (hs:kA K.ledgers) (ha:mh K.ledgers) (hp:∀ p,p<K.purses.length→il K.ledgers (K.purses.getD p Ps.none).team (K.purses.getD p Ps.none).res<K.ledgers.length):
  Calls Tryz.prog 42 #[.agg #[.slice (some ⟨a0,0,none⟩) L.shapes.length L.shapes.length,.slice (some ⟨a1,0,none⟩) L.mends.length L.mends.length,.slice (some ⟨a2,0,none⟩) L.teams.length L.teams.length],.agg #[.int .i64 K.now,.int .i64 K.tick,.int .i64 K.given,.slice (some ⟨e0,0,none⟩) K.objects.length K.objects.length,.slice (some ⟨e1,0,none⟩) K.grants.length K.grants.length,.slice (some ⟨e2,0,none⟩) K.ledgers.length K.ledgers.length,.slice (some ⟨e3,0,none⟩) K.purses.length K.purses.length]] w fun e w'=>e=.returned (.bool (ij L K))∧Bel w w':=by
 have HA:=hid (And.intro hL (And.intro hK (And.intro hs (And.intro ha hp))));have hl:=hK.l.len;obtain⟨R,hR⟩:∃ R,R=ij L K:=⟨_,rfl⟩
 have HR:Hid (R=aD (fF L K) K.ledgers.length):=hR;rw[← hR];clear hL hK hs ha hp hR;obtain⟨w1,dW⟩:∃ w1,w1=(w.alloc (.cells #[.slice (some ⟨a0,0,none⟩) L.shapes.length L.shapes.length,.slice (some ⟨a1,0,none⟩) L.mends.length L.mends.length,.slice (some ⟨a2,0,none⟩) L.teams.length L.teams.length] 40)).alloc (.cells #[.int .i64 K.now,.int .i64 K.tick,.int .i64 K.given,.slice (some ⟨e0,0,none⟩) K.objects.length K.objects.length,.slice (some ⟨e1,0,none⟩) K.grants.length K.grants.length,.slice (some ⟨e2,0,none⟩) K.ledgers.length K.ledgers.length,.slice (some ⟨e3,0,none⟩) K.purses.length K.purses.length] 47):=⟨_,rfl⟩
 have cN:Hid (Bel w w1):=by show Below _ _ _;rw[dW];exact ab (ab br _) _
 have dD:Hid (aT w1 w.heap.size #[.slice (some ⟨a0,0,none⟩) L.shapes.length L.shapes.length,.slice (some ⟨a1,0,none⟩) L.mends.length L.mends.length,.slice (some ⟨a2,0,none⟩) L.teams.length L.teams.length]∧aT w1 (w.heap.size+1) #[.int .i64 K.now,.int .i64 K.tick,.int .i64 K.given,.slice (some ⟨e0,0,none⟩) K.objects.length K.objects.length,.slice (some ⟨e1,0,none⟩) K.grants.length K.grants.length,.slice (some ⟨e2,0,none⟩) K.ledgers.length K.ledgers.length,.slice (some ⟨e3,0,none⟩) K.purses.length K.purses.length]):=by
  show _∧_;rw[dW];exact⟨(aT.bV w _ _ _ rfl).ek _,aT.bV _ _ _ _ (by simp)⟩
 go_enter Tryz.func42,Tryz.ntmps42
 go_upto_region 1 with fail
 rw[← dW];clear dW;obtain⟨bB,aR⟩:=dD.out;have lz:=bB.lt;have yz:=aR.lt;have l0:w1.cell? ⟨w.heap.size,0,none⟩=some (.slice (some ⟨a0,0,none⟩) L.shapes.length L.shapes.length):=bB.at_ 0;have l1:w1.cell? ⟨w.heap.size,1,none⟩=some (.slice (some ⟨a1,0,none⟩) L.mends.length L.mends.length):=bB.at_ 1;have l2:w1.cell? ⟨w.heap.size,2,none⟩=some (.slice (some ⟨a2,0,none⟩) L.teams.length L.teams.length):=bB.at_ 2;have y0:w1.cell? ⟨w.heap.size+1,0,none⟩=some (.int .i64 K.now):=aR.at_ 0;have y1:w1.cell? ⟨w.heap.size+1,1,none⟩=some (.int .i64 K.tick):=aR.at_ 1;have y2:w1.cell? ⟨w.heap.size+1,2,none⟩=some (.int .i64 K.given):=aR.at_ 2;have y3:w1.cell? ⟨w.heap.size+1,3,none⟩=some (.slice (some ⟨e0,0,none⟩) K.objects.length K.objects.length):=aR.at_ 3;have y4:w1.cell? ⟨w.heap.size+1,4,none⟩=some (.slice (some ⟨e1,0,none⟩) K.grants.length K.grants.length):=aR.at_ 4;have y5:w1.cell? ⟨w.heap.size+1,5,none⟩=some (.slice (some ⟨e2,0,none⟩) K.ledgers.length K.ledgers.length):=aR.at_ 5;have y6:w1.cell? ⟨w.heap.size+1,6,none⟩=some (.slice (some ⟨e3,0,none⟩) K.purses.length K.purses.length):=aR.at_ 6;clear bB aR;go_wp2_with fail
 refine(G3 L K a0 a1 a2 e0 e1 e2 e3 w1 (HA.out.1.later cN.out) (HA.out.2.1.later cN.out) HA.out.2.2.1 HA.out.2.2.2.1 HA.out.2.2.2.2).mono ?_;rintro e w3 ⟨⟨mb,rfl,gk,gQ,DL⟩,aQ⟩;have mY:=hid (And.intro gQ DL);have gq:=hid (aa cN.out aQ);have u3:=hid (dD.out.2.later aQ);clear gk gQ DL aQ lz l0 l1 l2 yz y0 y1 y2 y3 y4 y5 y6;have aR:=u3.out;have yz:=aR.lt;have y5:w3.cell? ⟨w.heap.size+1,5,none⟩=some (.slice (some ⟨e2,0,none⟩) K.ledgers.length K.ledgers.length):=aR.at_ 5;clear aR;go_wp2;clear yz y5;go_loopw [14] (fun i wr=>∃ q:Nat,q≤K.ledgers.length∧i=.int .i64 q∧aD (fF L K) q=true∧Bel w3 wr) (fun i _=>K.ledgers.length - (intOf i).toNat)
 case atStart=>exact⟨0,nz,rfl,rfl,br⟩
 case round=>
  obtain⟨q,hq,rfl,Bf,hW⟩:=hrel;have HQ:Hid (aD (fF L K) q=true):=Bf;have qX:Hid (Bel w3 wr):=hW;have fu:=hid (aa gq.out hW);clear Bf hW;by_cases aw:q<K.ledgers.length
  ·obtain⟨x,hx⟩:∃ x,x=K.ledgers.getD q Lg.none:=⟨_,rfl⟩
   have bC:=(HA.out.2.1.later fu.out).l;have gx:=bC.lt;have eb:=bC.at_ q aw;rw[← hx]at eb;obtain⟨c0,c1,c2,c3,eQ⟩:=eb;obtain⟨w4,ej⟩:∃ w4,w4=wr.alloc (.cells #[.string x.team,.string x.res,.int .i64 x.most,.int .i64 x.free] 131):=⟨_,rfl⟩
   obtain⟨E,hE⟩:∃ E,E=wr.heap.size:=⟨_,rfl⟩
   have dC:Bel wr w4:=by rw[ej];exact ab br _
   have je:=hid (aa qX.out dC);have F9:Hid (aT w4 E #[.string x.team,.string x.res,.int .i64 x.most,.int .i64 x.free]):=by show aT _ _ _;rw[ej];exact aT.bV _ _ _ _ hE
   have sW:=hid (And.intro (lo mY.out.1 je.out.size) ((je.out.block mb mY.out.1).trans mY.out.2));obtain⟨cu,yf⟩:∃ cu,cu=b9 L K q K.purses.length:=⟨_,rfl⟩
   have sY:Hid (∀ W,W.heap[mb]? =some (.map (bJ K.ledgers (fun i=>b9 L K i K.purses.length) K.ledgers.length) K.ledgers.length)→(Instr.lookup 154 (.map (some mb)) (.agg #[.string x.team,.string x.res]) false).run Tryz.prog W=.ok (.int .i64 cu) W):=fun W hb=>by
    rw[yf];refine rN _ _ mb q W x _ eQ hb ?_;rcases og K.ledgers (fun i=>b9 L K i K.purses.length) K.ledgers.length W x eQ nr HA.out.2.2.1 with h|⟨i,hi,hr,he⟩
    ·exact absurd (by rw[hx]) (h.2 q aw)
    ·rw[hx]at he;obtain rfl:=HA.out.2.2.2.1 i q hi aw he;exact hr
   have HSA:Hid (fF L K q=decide (cu=x.most)):=by
    show fF L K q=_;unfold fF;rw[yf,xJ,hx]
   clear hx bC yf eQ;have aR:=u3.out.later qX.out;have yz:=aR.lt;clear aR;go_upto_region 5 with fail
   rw[← ej,← hE];clear ej hE c0 c1 c2 c3 gx yz;obtain⟨bq,mw⟩:∃ bq,bq= !decide (cu=x.most):=⟨_,rfl⟩
   have HBQ:Hid ((cu !=x.most)=bq):=by show _=_;rw[mw];rfl
   have JM:Hid (bq= !fF L K q):=by show bq=_;rw[mw,HSA.out]
   clear mw;refine iT w4 br (fun j u _=>VL [.map (some mb),.pointer (some ⟨E,0,none⟩),.string x.team,.pointer (some ⟨E,1,none⟩),.string x.res,.agg #[.string x.team,.string x.res],.int .i64 cu,.pointer (some ⟨E,2,none⟩),.int .i64 x.most,.bool bq] j u) (fun _ _ _ _ _ h=>h) (by kernel_rfl) (by kernel_rfl) (by kernel_rfl) (by kernel_rfl) ?_ ?_
   ·intro i o ho a W hW hk hd;have et5:a.tmps[5]?.getD undef=.map (some mb):=(az a 5).trans ((hk 5 rfl).trans rfl);have et7:a.tmps[7]?.getD undef=.pointer (some ⟨E,0,none⟩):=(az a 7).trans ((hk 7 rfl).trans rfl);have hE:=F9.out.later hW;have jq:=hE.lt;have hmp:=(hW.block mb sW.out.1).trans sW.out.2;have x0:W.cell? ⟨E,0,none⟩=some (.string x.team):=hE.at_ 0;have x1:W.cell? ⟨E,1,none⟩=some (.string x.res):=hE.at_ 1;have x2:W.cell? ⟨E,2,none⟩=some (.int .i64 x.most):=hE.at_ 2;have x3:W.cell? ⟨E,3,none⟩=some (.int .i64 x.free):=hE.at_ 3;match i,ho with
    |0,ho=>
     injection ho with ho;subst ho
     exact Or.inl ⟨_,W,by simp[execOp,go_sem,et5],br,rfl⟩
    |1,ho=>
     injection ho with ho;subst ho
     exact Or.inl ⟨_,W,by simp[execOp,go_sem,et7],br,rfl⟩
    |2,ho=>
     injection ho with ho;subst ho
     have e1:a.tmps[19]?.getD undef=.pointer (some ⟨E,0,none⟩):=(az a 19).trans (Option.some.inj (hd 1 _ 19 rfl rfl ⟨⟨1,.data⟩,by simp,rfl,rfl⟩)).symm;exact Or.inl ⟨_,W,by simp[execOp,go_sem,e1,x0],br,rfl⟩
    |3,ho=>
     injection ho with ho;subst ho
     exact Or.inl ⟨_,W,by simp[execOp,go_sem,et7],br,rfl⟩
    |4,ho=>
     injection ho with ho;subst ho
     have e3:a.tmps[21]?.getD undef=.pointer (some ⟨E,1,none⟩):=(az a 21).trans (Option.some.inj (hd 3 _ 21 rfl rfl ⟨⟨3,.data⟩,by simp,rfl,rfl⟩)).symm;exact Or.inl ⟨_,W,by simp[execOp,go_sem,e3,x1],br,rfl⟩
    |5,ho=>
     injection ho with ho;subst ho
     have e2:a.tmps[20]?.getD undef=.string x.team:=(az a 20).trans (Option.some.inj (hd 2 _ 20 rfl rfl ⟨⟨2,.data⟩,by simp,rfl,rfl⟩)).symm;have e4:a.tmps[22]?.getD undef=.string x.res:=(az a 22).trans (Option.some.inj (hd 4 _ 22 rfl rfl ⟨⟨4,.data⟩,by simp,rfl,rfl⟩)).symm;exact Or.inl ⟨_,W,by simp[execOp,go_sem,e2,e4],br,rfl⟩
    |6,ho=>
     injection ho with ho;subst ho
     have e0:a.tmps[18]?.getD undef=.map (some mb):=(az a 18).trans (Option.some.inj (hd 0 _ 18 rfl rfl ⟨⟨0,.data⟩,by simp,rfl,rfl⟩)).symm;have e5:a.tmps[23]?.getD undef=.agg #[.string x.team,.string x.res]:=(az a 23).trans (Option.some.inj (hd 5 _ 23 rfl rfl ⟨⟨5,.data⟩,by simp,rfl,rfl⟩)).symm;have GG:=sY.out W hmp;exact Or.inl ⟨_,W,by simp[execOp,go_sem,e0,e5,GG],br,rfl⟩
    |7,ho=>
     injection ho with ho;subst ho
     exact Or.inl ⟨_,W,by simp[execOp,go_sem,et7],br,rfl⟩
    |8,ho=>
     injection ho with ho;subst ho
     have e7:a.tmps[25]?.getD undef=.pointer (some ⟨E,2,none⟩):=(az a 25).trans (Option.some.inj (hd 7 _ 25 rfl rfl ⟨⟨7,.data⟩,by simp,rfl,rfl⟩)).symm;exact Or.inl ⟨_,W,by simp[execOp,go_sem,e7,x2],br,rfl⟩
    |9,ho=>
     injection ho with ho;subst ho
     have e6:a.tmps[24]?.getD undef=.int .i64 cu:=(az a 24).trans (Option.some.inj (hd 6 _ 24 rfl rfl ⟨⟨6,.data⟩,by simp,rfl,rfl⟩)).symm;have e8:a.tmps[26]?.getD undef=.int .i64 x.most:=(az a 26).trans (Option.some.inj (hd 8 _ 26 rfl rfl ⟨⟨8,.data⟩,by simp,rfl,rfl⟩)).symm;exact Or.inl ⟨.bool bq,W,by simp[execOp,go_sem,e6,e8,HBQ.out],br,rfl⟩
    |m+10,ho=>simp at ho
   ·intro w9 vs vS mP;have elast:vs 27=.bool bq:=(Option.some.inj (mP 9 _ 27 rfl rfl)).symm;have vP:Hid (Bel w4 w9):=vS;simp only[el,Act.put,List.setIfInBounds_toArray,List.set_cons_zero,List.set_cons_succ];rw[elast];generalize vs 18=s18;generalize vs 19=s19;generalize vs 20=s20;generalize vs 21=s21;generalize vs 22=s22;generalize vs 23=s23;generalize vs 24=s24;generalize vs 25=s25;generalize vs 26=s26;clear mP elast vS;cases bq
    ·have HE:=hid (aU HQ.out (by have:=JM.out;cases h:fF L K q<;>simp[h]at this ⊢));go_wp2;go_roundw
     case rel=>exact⟨q+1,by omega,by go_num,HE.out,aa je.out vP.out⟩
     case measure=>simp[intOf];omega
    ·have HE:Hid (R=false):=by
      show R=false;rw[HR.out];exact ba aw (by have:=JM.out;cases h:fF L K q<;>simp[h]at this ⊢)
     go_wp2;go_ret;exact⟨Pl.ae HE.out.symm,aa gq.out (aa je.out vP.out)⟩
  ·obtain rfl:q=K.ledgers.length:=by omega
   go_wp2;go_ret;exact⟨Pl.ae (by rw[HR.out,HQ.out]),fu.out⟩
set_option maxRecDepth 8000
set_option maxHeartbeats 40000000
open Go.RowKit Go.Deep
theorem tF (L:Lw) (K:Bk) (a0 a1 a2 e0 e1 e2 e3:Nat) (w:World) (hL:iy w a0 a1 a2 L) (hK:gp w e0 e1 e2 e3 K) (hm:aO L.shapes L.mends=true):
  Calls Tryz.prog 38 #[.agg #[.slice (some ⟨a0,0,none⟩) L.shapes.length L.shapes.length,.slice (some ⟨a1,0,none⟩) L.mends.length L.mends.length,.slice (some ⟨a2,0,none⟩) L.teams.length L.teams.length],.agg #[.int .i64 K.now,.int .i64 K.tick,.int .i64 K.given,.slice (some ⟨e0,0,none⟩) K.objects.length K.objects.length,.slice (some ⟨e1,0,none⟩) K.grants.length K.grants.length,.slice (some ⟨e2,0,none⟩) K.ledgers.length K.ledgers.length,.slice (some ⟨e3,0,none⟩) K.purses.length K.purses.length]] w fun e w'=>e=.returned (.bool (ec L K))∧Bel w w':=by
 have HA:=hid (And.intro hL (And.intro hK hm));have hl:=hK.o.len;obtain⟨R,hR⟩:∃ R,R=ec L K:=⟨_,rfl⟩
 have HR:Hid (R=(decide (K.objects.length≤40)&&jh K.objects&&aD (cy L K) K.objects.length)):=hR;rw[← hR];clear hL hK hm hR;obtain⟨w1,dW⟩:∃ w1,w1=(w.alloc (.cells #[.slice (some ⟨a0,0,none⟩) L.shapes.length L.shapes.length,.slice (some ⟨a1,0,none⟩) L.mends.length L.mends.length,.slice (some ⟨a2,0,none⟩) L.teams.length L.teams.length] 40)).alloc (.cells #[.int .i64 K.now,.int .i64 K.tick,.int .i64 K.given,.slice (some ⟨e0,0,none⟩) K.objects.length K.objects.length,.slice (some ⟨e1,0,none⟩) K.grants.length K.grants.length,.slice (some ⟨e2,0,none⟩) K.ledgers.length K.ledgers.length,.slice (some ⟨e3,0,none⟩) K.purses.length K.purses.length] 47):=⟨_,rfl⟩
 have cN:Hid (Bel w w1):=by show Below _ _ _;rw[dW];exact ab (ab br _) _
 have dD:Hid (∀ W,Bel w1 W→aT W w.heap.size #[.slice (some ⟨a0,0,none⟩) L.shapes.length L.shapes.length,.slice (some ⟨a1,0,none⟩) L.mends.length L.mends.length,.slice (some ⟨a2,0,none⟩) L.teams.length L.teams.length]∧aT W (w.heap.size+1) #[.int .i64 K.now,.int .i64 K.tick,.int .i64 K.given,.slice (some ⟨e0,0,none⟩) K.objects.length K.objects.length,.slice (some ⟨e1,0,none⟩) K.grants.length K.grants.length,.slice (some ⟨e2,0,none⟩) K.ledgers.length K.ledgers.length,.slice (some ⟨e3,0,none⟩) K.purses.length K.purses.length]):=by
  have q:aT w1 w.heap.size #[.slice (some ⟨a0,0,none⟩) L.shapes.length L.shapes.length,.slice (some ⟨a1,0,none⟩) L.mends.length L.mends.length,.slice (some ⟨a2,0,none⟩) L.teams.length L.teams.length]∧aT w1 (w.heap.size+1) #[.int .i64 K.now,.int .i64 K.tick,.int .i64 K.given,.slice (some ⟨e0,0,none⟩) K.objects.length K.objects.length,.slice (some ⟨e1,0,none⟩) K.grants.length K.grants.length,.slice (some ⟨e2,0,none⟩) K.ledgers.length K.ledgers.length,.slice (some ⟨e3,0,none⟩) K.purses.length K.purses.length]:=by
   rw[dW];exact⟨(aT.bV _ _ _ _ rfl).ek _,aT.bV _ _ _ _ (by simp)⟩
  intro W hW;exact⟨q.1.later hW,q.2.later hW⟩
 go_enter Tryz.func38,Tryz.ntmps38
 go_upto_region 1 with fail
 rw[← dW];clear dW;obtain⟨y3,y7⟩:=dD.out w1 br;have k3:w1.cell? ⟨w.heap.size+1,3,none⟩=some (.slice (some ⟨e0,0,none⟩) K.objects.length K.objects.length):=y7.at_ 3;clear y3 y7;by_cases hlen:K.objects.length≤40
 ·obtain⟨ra,uO⟩:∃ ra,ra=jh K.objects:=⟨_,rfl⟩
  have HC:=Ee e0 K.objects w1 (HA.out.2.1.later cN.out).o;rw[← uO]at HC;have yg:Hid (ra=jh K.objects):=uO;clear uO;go_wp2_with fail
  refine HC.mono ?_;rintro e w2 ⟨rfl,aA⟩;clear k3 HC;cases ra
  ·have HE:Hid (R=false):=by show R=false;rw[HR.out,← yg.out];simp
   go_wp2;go_ret;exact⟨Pl.ae HE.out.symm,aa cN.out aA⟩
  ·have l3:Hid (R=aD (cy L K) K.objects.length):=by show R=_;rw[HR.out,← yg.out];simp[hlen]
   have HL:Hid (K.objects.length≤40):=hlen;clear hlen;obtain⟨y3,y7⟩:=dD.out w2 aA;have k3:w2.cell? ⟨w.heap.size+1,3,none⟩=some (.slice (some ⟨e0,0,none⟩) K.objects.length K.objects.length):=y7.at_ 3;clear y3 y7;go_wp2;clear k3;go_loopw [20] (fun i wr=>∃ q:Nat,q≤K.objects.length∧i=.int .i64 q∧aD (cy L K) q=true∧Bel w1 wr) (fun i _=>K.objects.length - (intOf i).toNat)
   case atStart=>exact⟨0,nz,rfl,rfl,aA⟩
   case round=>
    obtain⟨q,hq,rfl,ha,hW⟩:=hrel;have HQ:Hid (aD (cy L K) q=true):=ha;have fu:=hid (aa cN.out hW);clear ha;by_cases aw:q<K.objects.length
    ·obtain⟨x,hx⟩:∃ x,x=K.objects.getD q Ob.none:=⟨_,rfl⟩
     have bC:=(HA.out.2.1.later fu.out).o;have gx:=bC.lt;have eb:=bC.at_ q aw;rw[← hx]at eb;obtain⟨b1,b2,_,c0,c1,c2,c3,c4,c5,c6,sR⟩:=eb;obtain⟨w4,ej⟩:∃ w4,w4=wr.alloc (.cells #[.string x.kind,.string x.name,.string x.team,.slice (some ⟨b1,0,none⟩) x.values.length x.values.length,.bool x.ending,.slice (some ⟨b2,0,none⟩) x.holds.length x.holds.length,.int .i64 x.version] 111):=⟨_,rfl⟩
     obtain⟨E,hE⟩:∃ E,E=wr.heap.size:=⟨_,rfl⟩
     have dC:Bel wr w4:=by rw[ej];exact ab br _
     have je:=hid (aa hW dC);have aY:=hid (aa fu.out dC);have hE4:aT w4 E #[.string x.kind,.string x.name,.string x.team,.slice (some ⟨b1,0,none⟩) x.values.length x.values.length,.bool x.ending,.slice (some ⟨b2,0,none⟩) x.holds.length x.holds.length,.int .i64 x.version]:=by rw[ej];exact aT.bV _ _ _ _ hE
     have kB:=hid (sR.later dC);obtain⟨rb,AT⟩:∃ rb,rb=gF L K x:=⟨_,rfl⟩
     have HRB:Hid (cy L K q=rb):=by show cy L K q=rb;rw[AT];unfold cy;rw[← hx]
     have HC:=xf L K x a0 a1 a2 e0 e1 e2 e3 b1 b2 w4 (HA.out.1.later aY.out) (HA.out.2.1.later aY.out) HA.out.2.2 yg.out.symm kB.out.arg kB.out.sized kB.out.z1 kB.out.z2;rw[← AT]at HC;have HE4:Hid (aT w4 E #[.string x.kind,.string x.name,.string x.team,.slice (some ⟨b1,0,none⟩) x.values.length x.values.length,.bool x.ending,.slice (some ⟨b2,0,none⟩) x.holds.length x.holds.length,.int .i64 x.version]):=hE4;clear hx AT sR hE4 dC;go_upto_region 6 with fail
     rw[← ej,← hE];clear ej hE c0 c1 c2 c3 c4 c5 c6;obtain⟨y3,y7⟩:=dD.out w4 je.out;have yE:=HE4.out;have l0:w4.cell? ⟨w.heap.size,0,none⟩=some (.slice (some ⟨a0,0,none⟩) L.shapes.length L.shapes.length):=y3.at_ 0;have l1:w4.cell? ⟨w.heap.size,1,none⟩=some (.slice (some ⟨a1,0,none⟩) L.mends.length L.mends.length):=y3.at_ 1;have l2:w4.cell? ⟨w.heap.size,2,none⟩=some (.slice (some ⟨a2,0,none⟩) L.teams.length L.teams.length):=y3.at_ 2;have k0:w4.cell? ⟨w.heap.size+1,0,none⟩=some (.int .i64 K.now):=y7.at_ 0;have k1:w4.cell? ⟨w.heap.size+1,1,none⟩=some (.int .i64 K.tick):=y7.at_ 1;have k2:w4.cell? ⟨w.heap.size+1,2,none⟩=some (.int .i64 K.given):=y7.at_ 2;have k3:w4.cell? ⟨w.heap.size+1,3,none⟩=some (.slice (some ⟨e0,0,none⟩) K.objects.length K.objects.length):=y7.at_ 3;have k4:w4.cell? ⟨w.heap.size+1,4,none⟩=some (.slice (some ⟨e1,0,none⟩) K.grants.length K.grants.length):=y7.at_ 4;have k5:w4.cell? ⟨w.heap.size+1,5,none⟩=some (.slice (some ⟨e2,0,none⟩) K.ledgers.length K.ledgers.length):=y7.at_ 5;have k6:w4.cell? ⟨w.heap.size+1,6,none⟩=some (.slice (some ⟨e3,0,none⟩) K.purses.length K.purses.length):=y7.at_ 6;have o0:w4.cell? ⟨E,0,none⟩=some (.string x.kind):=yE.at_ 0;have o1:w4.cell? ⟨E,1,none⟩=some (.string x.name):=yE.at_ 1;have o2:w4.cell? ⟨E,2,none⟩=some (.string x.team):=yE.at_ 2;have o3:w4.cell? ⟨E,3,none⟩=some (.slice (some ⟨b1,0,none⟩) x.values.length x.values.length):=yE.at_ 3;have o4:w4.cell? ⟨E,4,none⟩=some (.bool x.ending):=yE.at_ 4;have o5:w4.cell? ⟨E,5,none⟩=some (.slice (some ⟨b2,0,none⟩) x.holds.length x.holds.length):=yE.at_ 5;have o6:w4.cell? ⟨E,6,none⟩=some (.int .i64 x.version):=yE.at_ 6;clear y3 y7 yE;go_wp2_with fail
     refine HC.mono ?_;rintro e w5 ⟨rfl,gv⟩;clear HC l0 l1 l2 k0 k1 k2 k3 k4 k5 k6 o0 o1 o2 o3 o4 o5 o6;cases rb
     ·have HE:Hid (R=false):=by
       show R=false;rw[l3.out];cases e:aD (cy L K) K.objects.length
       ·rfl
       ·have:=(hN _ _).1 e q aw;rw[HRB.out]at this;cases this
      go_wp2;go_ret;exact⟨Pl.ae HE.out.symm,aa aY.out gv⟩
     ·have HT:Hid (aD (cy L K) (q+1)=true):=by show aD _ _=true;rw[aD,HQ.out,HRB.out];rfl
      go_wp2;go_roundw
      case rel=>exact⟨q+1,by omega,by go_num,HT.out,aa je.out gv⟩
      case measure=>simp[intOf];omega
    ·have HE:Hid (R=true):=by
      show R=true;rw[l3.out];obtain rfl:q=K.objects.length:=by omega
      exact HQ.out
     go_wp2;go_ret;exact⟨Pl.ae HE.out.symm,fu.out⟩
 ·have HE:Hid (R=false):=by show R=false;rw[HR.out];simp[hlen]
  go_wp2;go_ret;exact⟨Pl.ae HE.out.symm,cN.out⟩
set_option maxRecDepth 8000
set_option maxHeartbeats 40000000
open Go.RowKit Go.Deep
theorem B0 (L:Lw) (K:Bk) (a0 a1 a2 e0 e1 e2 e3:Nat) (w:World) (hL:iy w a0 a1 a2 L) (hK:gp w e0 e1 e2 e3 K):
  Calls Tryz.prog 10 #[.agg #[.slice (some ⟨a0,0,none⟩) L.shapes.length L.shapes.length,.slice (some ⟨a1,0,none⟩) L.mends.length L.mends.length,.slice (some ⟨a2,0,none⟩) L.teams.length L.teams.length],.agg #[.int .i64 K.now,.int .i64 K.tick,.int .i64 K.given,.slice (some ⟨e0,0,none⟩) K.objects.length K.objects.length,.slice (some ⟨e1,0,none⟩) K.grants.length K.grants.length,.slice (some ⟨e2,0,none⟩) K.ledgers.length K.ledgers.length,.slice (some ⟨e3,0,none⟩) K.purses.length K.purses.length]] w fun e w'=>e=.returned (.bool (jt L K))∧Bel w w':=by
 have HA:=hid (And.intro hL hK);obtain⟨R,hR⟩:∃ R,R=jt L K:=⟨_,rfl⟩
 have HR:Hid (R=(ff L&&fW K&&ec L K&&eU K&&dM L K&&eF K&&ij L K)):=hR;rw[← hR];clear hL hK hR;obtain⟨w1,dW⟩:∃ w1,w1=(w.alloc (.cells #[.slice (some ⟨a0,0,none⟩) L.shapes.length L.shapes.length,.slice (some ⟨a1,0,none⟩) L.mends.length L.mends.length,.slice (some ⟨a2,0,none⟩) L.teams.length L.teams.length] 40)).alloc (.cells #[.int .i64 K.now,.int .i64 K.tick,.int .i64 K.given,.slice (some ⟨e0,0,none⟩) K.objects.length K.objects.length,.slice (some ⟨e1,0,none⟩) K.grants.length K.grants.length,.slice (some ⟨e2,0,none⟩) K.ledgers.length K.ledgers.length,.slice (some ⟨e3,0,none⟩) K.purses.length K.purses.length] 47):=⟨_,rfl⟩
 have cN:Hid (Bel w w1):=by show Below _ _ _;rw[dW];exact ab (ab br _) _
 have dD:Hid (∀ W,Bel w1 W→aT W w.heap.size #[.slice (some ⟨a0,0,none⟩) L.shapes.length L.shapes.length,.slice (some ⟨a1,0,none⟩) L.mends.length L.mends.length,.slice (some ⟨a2,0,none⟩) L.teams.length L.teams.length]∧aT W (w.heap.size+1) #[.int .i64 K.now,.int .i64 K.tick,.int .i64 K.given,.slice (some ⟨e0,0,none⟩) K.objects.length K.objects.length,.slice (some ⟨e1,0,none⟩) K.grants.length K.grants.length,.slice (some ⟨e2,0,none⟩) K.ledgers.length K.ledgers.length,.slice (some ⟨e3,0,none⟩) K.purses.length K.purses.length]):=by
  have q:aT w1 w.heap.size #[.slice (some ⟨a0,0,none⟩) L.shapes.length L.shapes.length,.slice (some ⟨a1,0,none⟩) L.mends.length L.mends.length,.slice (some ⟨a2,0,none⟩) L.teams.length L.teams.length]∧aT w1 (w.heap.size+1) #[.int .i64 K.now,.int .i64 K.tick,.int .i64 K.given,.slice (some ⟨e0,0,none⟩) K.objects.length K.objects.length,.slice (some ⟨e1,0,none⟩) K.grants.length K.grants.length,.slice (some ⟨e2,0,none⟩) K.ledgers.length K.ledgers.length,.slice (some ⟨e3,0,none⟩) K.purses.length K.purses.length]:=by
   rw[dW];exact⟨(aT.bV _ _ _ _ rfl).ek _,aT.bV _ _ _ _ (by simp)⟩
  intro W hW;exact⟨q.1.later hW,q.2.later hW⟩
 go_enter Tryz.func10,Tryz.ntmps10
 go_upto_region 1 with fail
 rw[← dW];clear dW;obtain⟨b1,bj⟩:∃ b1,b1=ff L:=⟨_,rfl⟩
 have HC:=Ek L a0 a1 a2 w1 (HA.out.1.later cN.out);rw[← bj]at HC;have I6:Hid (b1=ff L):=bj;clear bj;obtain⟨y3,y7⟩:=dD.out w1 br;have l0:w1.cell? ⟨w.heap.size,0,none⟩=some (.slice (some ⟨a0,0,none⟩) L.shapes.length L.shapes.length):=y3.at_ 0;have l1:w1.cell? ⟨w.heap.size,1,none⟩=some (.slice (some ⟨a1,0,none⟩) L.mends.length L.mends.length):=y3.at_ 1;have l2:w1.cell? ⟨w.heap.size,2,none⟩=some (.slice (some ⟨a2,0,none⟩) L.teams.length L.teams.length):=y3.at_ 2;have k0:w1.cell? ⟨w.heap.size+1,0,none⟩=some (.int .i64 K.now):=y7.at_ 0;have k1:w1.cell? ⟨w.heap.size+1,1,none⟩=some (.int .i64 K.tick):=y7.at_ 1;have k2:w1.cell? ⟨w.heap.size+1,2,none⟩=some (.int .i64 K.given):=y7.at_ 2;have k3:w1.cell? ⟨w.heap.size+1,3,none⟩=some (.slice (some ⟨e0,0,none⟩) K.objects.length K.objects.length):=y7.at_ 3;have k4:w1.cell? ⟨w.heap.size+1,4,none⟩=some (.slice (some ⟨e1,0,none⟩) K.grants.length K.grants.length):=y7.at_ 4;have k5:w1.cell? ⟨w.heap.size+1,5,none⟩=some (.slice (some ⟨e2,0,none⟩) K.ledgers.length K.ledgers.length):=y7.at_ 5;have k6:w1.cell? ⟨w.heap.size+1,6,none⟩=some (.slice (some ⟨e3,0,none⟩) K.purses.length K.purses.length):=y7.at_ 6;clear y3 y7;go_wp2_with fail
 refine HC.mono ?_;rintro e w2 ⟨rfl,Ij⟩;clear HC l0 l1 l2 k0 k1 k2 k3 k4 k5 k6;have E5:Hid (Bel w1 w2):=aa br Ij;have LY:=hid (aa cN.out E5.out);clear Ij;cases b1
 ·have HE:Hid (R=false):=by show R=false;rw[HR.out];simp[← I6.out]
  go_wp2;go_ret;exact⟨Pl.ae HE.out.symm,LY.out⟩
 have Hb1:Hid (ff L=true):=I6.out.symm;obtain⟨b2,aA⟩:∃ b2,b2=fW K:=⟨_,rfl⟩
 have HC:=zG K e0 e1 e2 e3 w2;rw[← aA]at HC;have I0:Hid (b2=fW K):=aA;clear aA;obtain⟨y3,y7⟩:=dD.out w2 E5.out;have l0:w2.cell? ⟨w.heap.size,0,none⟩=some (.slice (some ⟨a0,0,none⟩) L.shapes.length L.shapes.length):=y3.at_ 0;have l1:w2.cell? ⟨w.heap.size,1,none⟩=some (.slice (some ⟨a1,0,none⟩) L.mends.length L.mends.length):=y3.at_ 1;have l2:w2.cell? ⟨w.heap.size,2,none⟩=some (.slice (some ⟨a2,0,none⟩) L.teams.length L.teams.length):=y3.at_ 2;have k0:w2.cell? ⟨w.heap.size+1,0,none⟩=some (.int .i64 K.now):=y7.at_ 0;have k1:w2.cell? ⟨w.heap.size+1,1,none⟩=some (.int .i64 K.tick):=y7.at_ 1;have k2:w2.cell? ⟨w.heap.size+1,2,none⟩=some (.int .i64 K.given):=y7.at_ 2;have k3:w2.cell? ⟨w.heap.size+1,3,none⟩=some (.slice (some ⟨e0,0,none⟩) K.objects.length K.objects.length):=y7.at_ 3;have k4:w2.cell? ⟨w.heap.size+1,4,none⟩=some (.slice (some ⟨e1,0,none⟩) K.grants.length K.grants.length):=y7.at_ 4;have k5:w2.cell? ⟨w.heap.size+1,5,none⟩=some (.slice (some ⟨e2,0,none⟩) K.ledgers.length K.ledgers.length):=y7.at_ 5;have k6:w2.cell? ⟨w.heap.size+1,6,none⟩=some (.slice (some ⟨e3,0,none⟩) K.purses.length K.purses.length):=y7.at_ 6;clear y3 y7;go_wp2_with fail
 refine HC.mono ?_;rintro e w3 ⟨rfl,IU⟩;clear HC l0 l1 l2 k0 k1 k2 k3 k4 k5 k6;have FD:=hid (aa E5.out IU);have EM:=hid (aa cN.out FD.out);clear IU;cases b2
 ·have HE:Hid (R=false):=by show R=false;rw[HR.out];simp[← I0.out]
  go_wp2;go_ret;exact⟨Pl.ae HE.out.symm,EM.out⟩
 have Hb2:Hid (fW K=true):=I0.out.symm;have HM:Hid (aO L.shapes L.mends=true):=by
  have h:=Hb1.out;unfold ff at h;cases e:aO L.shapes L.mends
  ·rw[e]at h;simp at h
  ·rfl
 obtain⟨b3,aQ⟩:∃ b3,b3=ec L K:=⟨_,rfl⟩
 have HC:=tF L K a0 a1 a2 e0 e1 e2 e3 w3 (HA.out.1.later EM.out) (HA.out.2.later EM.out) HM.out;rw[← aQ]at HC;have IV:Hid (b3=ec L K):=aQ;clear aQ;obtain⟨y3,y7⟩:=dD.out w3 FD.out;have l0:w3.cell? ⟨w.heap.size,0,none⟩=some (.slice (some ⟨a0,0,none⟩) L.shapes.length L.shapes.length):=y3.at_ 0;have l1:w3.cell? ⟨w.heap.size,1,none⟩=some (.slice (some ⟨a1,0,none⟩) L.mends.length L.mends.length):=y3.at_ 1;have l2:w3.cell? ⟨w.heap.size,2,none⟩=some (.slice (some ⟨a2,0,none⟩) L.teams.length L.teams.length):=y3.at_ 2;have k0:w3.cell? ⟨w.heap.size+1,0,none⟩=some (.int .i64 K.now):=y7.at_ 0;have k1:w3.cell? ⟨w.heap.size+1,1,none⟩=some (.int .i64 K.tick):=y7.at_ 1;have k2:w3.cell? ⟨w.heap.size+1,2,none⟩=some (.int .i64 K.given):=y7.at_ 2;have k3:w3.cell? ⟨w.heap.size+1,3,none⟩=some (.slice (some ⟨e0,0,none⟩) K.objects.length K.objects.length):=y7.at_ 3;have k4:w3.cell? ⟨w.heap.size+1,4,none⟩=some (.slice (some ⟨e1,0,none⟩) K.grants.length K.grants.length):=y7.at_ 4;have k5:w3.cell? ⟨w.heap.size+1,5,none⟩=some (.slice (some ⟨e2,0,none⟩) K.ledgers.length K.ledgers.length):=y7.at_ 5;have k6:w3.cell? ⟨w.heap.size+1,6,none⟩=some (.slice (some ⟨e3,0,none⟩) K.purses.length K.purses.length):=y7.at_ 6;clear y3 y7;go_wp2_with fail
 refine HC.mono ?_;rintro e w4 ⟨rfl,Je⟩;clear HC l0 l1 l2 k0 k1 k2 k3 k4 k5 k6;have FC:=hid (aa FD.out Je);have Hl:=hid (aa cN.out FC.out);clear Je;cases b3
 ·have HE:Hid (R=false):=by show R=false;rw[HR.out];simp[← IV.out]
  go_wp2;go_ret;exact⟨Pl.ae HE.out.symm,Hl.out⟩
 have Hb3:Hid (ec L K=true):=IV.out.symm;obtain⟨b4,cq⟩:∃ b4,b4=eU K:=⟨_,rfl⟩
 have HC:=xw K e0 e1 e2 e3 w4 (HA.out.2.later Hl.out);rw[← cq]at HC;have Jo:Hid (b4=eU K):=cq;clear cq;obtain⟨y3,y7⟩:=dD.out w4 FC.out;have l0:w4.cell? ⟨w.heap.size,0,none⟩=some (.slice (some ⟨a0,0,none⟩) L.shapes.length L.shapes.length):=y3.at_ 0;have l1:w4.cell? ⟨w.heap.size,1,none⟩=some (.slice (some ⟨a1,0,none⟩) L.mends.length L.mends.length):=y3.at_ 1;have l2:w4.cell? ⟨w.heap.size,2,none⟩=some (.slice (some ⟨a2,0,none⟩) L.teams.length L.teams.length):=y3.at_ 2;have k0:w4.cell? ⟨w.heap.size+1,0,none⟩=some (.int .i64 K.now):=y7.at_ 0;have k1:w4.cell? ⟨w.heap.size+1,1,none⟩=some (.int .i64 K.tick):=y7.at_ 1;have k2:w4.cell? ⟨w.heap.size+1,2,none⟩=some (.int .i64 K.given):=y7.at_ 2;have k3:w4.cell? ⟨w.heap.size+1,3,none⟩=some (.slice (some ⟨e0,0,none⟩) K.objects.length K.objects.length):=y7.at_ 3;have k4:w4.cell? ⟨w.heap.size+1,4,none⟩=some (.slice (some ⟨e1,0,none⟩) K.grants.length K.grants.length):=y7.at_ 4;have k5:w4.cell? ⟨w.heap.size+1,5,none⟩=some (.slice (some ⟨e2,0,none⟩) K.ledgers.length K.ledgers.length):=y7.at_ 5;have k6:w4.cell? ⟨w.heap.size+1,6,none⟩=some (.slice (some ⟨e3,0,none⟩) K.purses.length K.purses.length):=y7.at_ 6;clear y3 y7;go_wp2_with fail
 refine HC.mono ?_;rintro e w5 ⟨rfl,H5⟩;clear HC l0 l1 l2 k0 k1 k2 k3 k4 k5 k6;have FU:=hid (aa FC.out H5);have FH:=hid (aa cN.out FU.out);clear H5;cases b4
 ·have HE:Hid (R=false):=by show R=false;rw[HR.out];simp[← Jo.out]
  go_wp2;go_ret;exact⟨Pl.ae HE.out.symm,FH.out⟩
 have Hb4:Hid (eU K=true):=Jo.out.symm;obtain⟨b5,gv⟩:∃ b5,b5=dM L K:=⟨_,rfl⟩
 have HC:=tR L K a0 a1 a2 e0 e1 e2 e3 w5 (HA.out.1.later FH.out) (HA.out.2.later FH.out);rw[← gv]at HC;have Jf:Hid (b5=dM L K):=gv;clear gv;obtain⟨y3,y7⟩:=dD.out w5 FU.out;have l0:w5.cell? ⟨w.heap.size,0,none⟩=some (.slice (some ⟨a0,0,none⟩) L.shapes.length L.shapes.length):=y3.at_ 0;have l1:w5.cell? ⟨w.heap.size,1,none⟩=some (.slice (some ⟨a1,0,none⟩) L.mends.length L.mends.length):=y3.at_ 1;have l2:w5.cell? ⟨w.heap.size,2,none⟩=some (.slice (some ⟨a2,0,none⟩) L.teams.length L.teams.length):=y3.at_ 2;have k0:w5.cell? ⟨w.heap.size+1,0,none⟩=some (.int .i64 K.now):=y7.at_ 0;have k1:w5.cell? ⟨w.heap.size+1,1,none⟩=some (.int .i64 K.tick):=y7.at_ 1;have k2:w5.cell? ⟨w.heap.size+1,2,none⟩=some (.int .i64 K.given):=y7.at_ 2;have k3:w5.cell? ⟨w.heap.size+1,3,none⟩=some (.slice (some ⟨e0,0,none⟩) K.objects.length K.objects.length):=y7.at_ 3;have k4:w5.cell? ⟨w.heap.size+1,4,none⟩=some (.slice (some ⟨e1,0,none⟩) K.grants.length K.grants.length):=y7.at_ 4;have k5:w5.cell? ⟨w.heap.size+1,5,none⟩=some (.slice (some ⟨e2,0,none⟩) K.ledgers.length K.ledgers.length):=y7.at_ 5;have k6:w5.cell? ⟨w.heap.size+1,6,none⟩=some (.slice (some ⟨e3,0,none⟩) K.purses.length K.purses.length):=y7.at_ 6;clear y3 y7;go_wp2_with fail
 refine HC.mono ?_;rintro e w6 ⟨rfl,Hz⟩;clear HC l0 l1 l2 k0 k1 k2 k3 k4 k5 k6;have Fz:=hid (aa FU.out Hz);have Hr:=hid (aa cN.out Fz.out);clear Hz;cases b5
 ·have HE:Hid (R=false):=by show R=false;rw[HR.out];simp[← Jf.out]
  go_wp2;go_ret;exact⟨Pl.ae HE.out.symm,Hr.out⟩
 have Hb5:Hid (dM L K=true):=Jf.out.symm;have u6:Hid (Hid (gj K.ledgers=true)):=by
  show gj K.ledgers=true;have h:=Hb5.out;unfold dM at h;cases e:gj K.ledgers
  ·rw[e]at h;simp at h
  ·rfl
 have HTK:Hid (0≤K.tick∧K.tick≤1000000):=by
  have h:=Hb2.out;unfold fW within at h;simp at h;show 0≤K.tick∧K.tick≤1000000;omega
 obtain⟨b6,xK⟩:∃ b6,b6=eF K:=⟨_,rfl⟩
 have HC:=wJ K e0 e1 e2 e3 w6 (HA.out.2.later Hr.out) u6.out HTK.out.1 HTK.out.2;rw[← xK]at HC;have IA:Hid (b6=eF K):=xK;clear xK;obtain⟨y3,y7⟩:=dD.out w6 Fz.out;have l0:w6.cell? ⟨w.heap.size,0,none⟩=some (.slice (some ⟨a0,0,none⟩) L.shapes.length L.shapes.length):=y3.at_ 0;have l1:w6.cell? ⟨w.heap.size,1,none⟩=some (.slice (some ⟨a1,0,none⟩) L.mends.length L.mends.length):=y3.at_ 1;have l2:w6.cell? ⟨w.heap.size,2,none⟩=some (.slice (some ⟨a2,0,none⟩) L.teams.length L.teams.length):=y3.at_ 2;have k0:w6.cell? ⟨w.heap.size+1,0,none⟩=some (.int .i64 K.now):=y7.at_ 0;have k1:w6.cell? ⟨w.heap.size+1,1,none⟩=some (.int .i64 K.tick):=y7.at_ 1;have k2:w6.cell? ⟨w.heap.size+1,2,none⟩=some (.int .i64 K.given):=y7.at_ 2;have k3:w6.cell? ⟨w.heap.size+1,3,none⟩=some (.slice (some ⟨e0,0,none⟩) K.objects.length K.objects.length):=y7.at_ 3;have k4:w6.cell? ⟨w.heap.size+1,4,none⟩=some (.slice (some ⟨e1,0,none⟩) K.grants.length K.grants.length):=y7.at_ 4;have k5:w6.cell? ⟨w.heap.size+1,5,none⟩=some (.slice (some ⟨e2,0,none⟩) K.ledgers.length K.ledgers.length):=y7.at_ 5;have k6:w6.cell? ⟨w.heap.size+1,6,none⟩=some (.slice (some ⟨e3,0,none⟩) K.purses.length K.purses.length):=y7.at_ 6;clear y3 y7;go_wp2_with fail
 refine HC.mono ?_;rintro e w7 ⟨rfl,Ib⟩;clear HC l0 l1 l2 k0 k1 k2 k3 k4 k5 k6;have E4:=hid (aa Fz.out Ib);have Fw:=hid (aa cN.out E4.out);clear Ib;cases b6
 ·have HE:Hid (R=false):=by show R=false;rw[HR.out];simp[← IA.out]
  go_wp2;go_ret;exact⟨Pl.ae HE.out.symm,Fw.out⟩
 have Hb6:Hid (eF K=true):=IA.out.symm;have HKS:Hid (kA K.ledgers):=fun i hi=>by
  obtain⟨_,_,_,_,eQ⟩:=HA.out.2.l.at_ i hi;exact eQ
 have HPL:Hid (∀ p,p<K.purses.length→il K.ledgers (K.purses.getD p Ps.none).team (K.purses.getD p Ps.none).res<K.ledgers.length):=by
  have h:=Hb6.out;unfold eF at h;intro p hp;have h2:aD (ct K) K.purses.length=true:=by
   cases e:aD (ct K) K.purses.length
   ·rw[e]at h;simp at h
   ·rfl
  have h3:=(hN _ _).1 h2 p hp;unfold ct lP at h3;simp only[Bool.and_eq_true,decide_eq_true_eq]at h3;exact h3.1.1.1
 obtain⟨b7,Ba⟩:∃ b7,b7=ij L K:=⟨_,rfl⟩
 have HC:=B6 L K a0 a1 a2 e0 e1 e2 e3 w7 (HA.out.1.later Fw.out) (HA.out.2.later Fw.out) HKS.out (t9 u6.out) HPL.out;rw[← Ba]at HC;have Ju:Hid (b7=ij L K):=Ba;clear Ba;obtain⟨y3,y7⟩:=dD.out w7 E4.out;have l0:w7.cell? ⟨w.heap.size,0,none⟩=some (.slice (some ⟨a0,0,none⟩) L.shapes.length L.shapes.length):=y3.at_ 0;have l1:w7.cell? ⟨w.heap.size,1,none⟩=some (.slice (some ⟨a1,0,none⟩) L.mends.length L.mends.length):=y3.at_ 1;have l2:w7.cell? ⟨w.heap.size,2,none⟩=some (.slice (some ⟨a2,0,none⟩) L.teams.length L.teams.length):=y3.at_ 2;have k0:w7.cell? ⟨w.heap.size+1,0,none⟩=some (.int .i64 K.now):=y7.at_ 0;have k1:w7.cell? ⟨w.heap.size+1,1,none⟩=some (.int .i64 K.tick):=y7.at_ 1;have k2:w7.cell? ⟨w.heap.size+1,2,none⟩=some (.int .i64 K.given):=y7.at_ 2;have k3:w7.cell? ⟨w.heap.size+1,3,none⟩=some (.slice (some ⟨e0,0,none⟩) K.objects.length K.objects.length):=y7.at_ 3;have k4:w7.cell? ⟨w.heap.size+1,4,none⟩=some (.slice (some ⟨e1,0,none⟩) K.grants.length K.grants.length):=y7.at_ 4;have k5:w7.cell? ⟨w.heap.size+1,5,none⟩=some (.slice (some ⟨e2,0,none⟩) K.ledgers.length K.ledgers.length):=y7.at_ 5;have k6:w7.cell? ⟨w.heap.size+1,6,none⟩=some (.slice (some ⟨e3,0,none⟩) K.purses.length K.purses.length):=y7.at_ 6;clear y3 y7;go_wp2_with fail
 refine HC.mono ?_;rintro e w8 ⟨rfl,Jm⟩;clear HC l0 l1 l2 k0 k1 k2 k3 k4 k5 k6;have Lj:=hid (aa E4.out Jm);have Hk:=hid (aa cN.out Lj.out);clear Jm;cases b7
 ·have HE:Hid (R=false):=by show R=false;rw[HR.out];simp[← Ju.out]
  go_wp2;go_ret;exact⟨Pl.ae HE.out.symm,Hk.out⟩
 have Hb7:Hid (ij L K=true):=Ju.out.symm;have HE:Hid (R=true):=by show R=true;rw[HR.out,Hb1.out,Hb2.out,Hb3.out,Hb4.out,Hb5.out,Hb6.out,Hb7.out];rfl
 go_wp2;go_ret;exact⟨Pl.ae HE.out.symm,Hk.out⟩
set_option maxRecDepth 8000
set_option maxHeartbeats 40000000
open Go.RowKit Go.Deep
theorem pE {L:Lw} (h:ff L=true):aM L.shapes=true∧aO L.shapes L.mends=true:=by
 unfold ff at h;have h1:=((Bool.and_eq_true _ _).mp h).1;refine⟨?_,h1⟩;unfold aO at h1;simp only[Bool.and_eq_true]at h1;exact h1.1.1.1
theorem lB {x lo hi:Int} (h:within x lo hi=true):lo≤x∧x≤hi:=by
 unfold within at h;simpa using h
theorem Bs (L:Lw) (K:Bk) (a0 a1 a2 e0 e1 e2 e3:Nat) (w:World) (hL:iy w a0 a1 a2 L) (hK:gp w e0 e1 e2 e3 K):
  Calls Tryz.prog 7 #[.agg #[.slice (some ⟨a0,0,none⟩) L.shapes.length L.shapes.length,.slice (some ⟨a1,0,none⟩) L.mends.length L.mends.length,.slice (some ⟨a2,0,none⟩) L.teams.length L.teams.length],.agg #[.int .i64 K.now,.int .i64 K.tick,.int .i64 K.given,.slice (some ⟨e0,0,none⟩) K.objects.length K.objects.length,.slice (some ⟨e1,0,none⟩) K.grants.length K.grants.length,.slice (some ⟨e2,0,none⟩) K.ledgers.length K.ledgers.length,.slice (some ⟨e3,0,none⟩) K.purses.length K.purses.length]] w fun e w'=>e=.returned (.bool (jt L K))∧Bel w w':=by
 have HA:=hid (And.intro hL hK);clear hK hL;obtain⟨w1,dW⟩:∃ w1,w1=(w.alloc (.cells #[.slice (some ⟨a0,0,none⟩) L.shapes.length L.shapes.length,.slice (some ⟨a1,0,none⟩) L.mends.length L.mends.length,.slice (some ⟨a2,0,none⟩) L.teams.length L.teams.length] 40)).alloc (.cells #[.int .i64 K.now,.int .i64 K.tick,.int .i64 K.given,.slice (some ⟨e0,0,none⟩) K.objects.length K.objects.length,.slice (some ⟨e1,0,none⟩) K.grants.length K.grants.length,.slice (some ⟨e2,0,none⟩) K.ledgers.length K.ledgers.length,.slice (some ⟨e3,0,none⟩) K.purses.length K.purses.length] 47):=⟨_,rfl⟩
 have cN:Hid (Bel w w1):=by show Below _ _ _;rw[dW];exact ab (ab br _) _
 have dD:Hid (∀ W,Bel w1 W→bm W (w.heap.size+1) (.int .i64 K.now) (.int .i64 K.tick) (.int .i64 K.given) (.slice (some ⟨e0,0,none⟩) K.objects.length K.objects.length) (.slice (some ⟨e1,0,none⟩) K.grants.length K.grants.length) (.slice (some ⟨e2,0,none⟩) K.ledgers.length K.ledgers.length) (.slice (some ⟨e3,0,none⟩) K.purses.length K.purses.length)∧ch W w.heap.size (.slice (some ⟨a0,0,none⟩) L.shapes.length L.shapes.length) (.slice (some ⟨a1,0,none⟩) L.mends.length L.mends.length) (.slice (some ⟨a2,0,none⟩) L.teams.length L.teams.length)):=by
  have q:bm w1 (w.heap.size+1) (.int .i64 K.now) (.int .i64 K.tick) (.int .i64 K.given) (.slice (some ⟨e0,0,none⟩) K.objects.length K.objects.length) (.slice (some ⟨e1,0,none⟩) K.grants.length K.grants.length) (.slice (some ⟨e2,0,none⟩) K.ledgers.length K.ledgers.length) (.slice (some ⟨e3,0,none⟩) K.purses.length K.purses.length)∧ch w1 w.heap.size (.slice (some ⟨a0,0,none⟩) L.shapes.length L.shapes.length) (.slice (some ⟨a1,0,none⟩) L.mends.length L.mends.length) (.slice (some ⟨a2,0,none⟩) L.teams.length L.teams.length):=by rw[dW];exact⟨bm.bV _ _ _ _ _ _ _ _ _ _ (by simp),(ch.bV w _ _ _ _ _ rfl).ek _⟩
  intro W hW;exact⟨q.1.later hW,q.2.later hW⟩
 obtain⟨b1,bj⟩:∃ b1,b1=(ff L):=⟨_,rfl⟩
 have eu:Hid (∀ W,Bel w1 W→Calls Tryz.prog 24 #[.agg #[.slice (some ⟨a0,0,none⟩) L.shapes.length L.shapes.length,.slice (some ⟨a1,0,none⟩) L.mends.length L.mends.length,.slice (some ⟨a2,0,none⟩) L.teams.length L.teams.length]] W fun e w'=>e=.returned (.bool b1)∧Bel W w'):=fun W hW=>by rw[bj];exact DX L a0 a1 a2 W (HA.out.1.later (aa cN.out hW))
 obtain⟨b2,aA⟩:∃ b2,b2=(within K.now 0 1000000):=⟨_,rfl⟩
 have fV:Hid (∀ W,Bel w1 W→Calls Tryz.prog 25 #[.int .i64 K.now,.int .i64 0,.int .i64 1000000] W fun e w'=>e=.returned (.bool b2)∧W=w'):=fun W hW=>by rw[aA];exact bb _ _ _ W
 obtain⟨b3,aQ⟩:∃ b3,b3=(within K.tick 0 1000000):=⟨_,rfl⟩
 have fc:Hid (∀ W,Bel w1 W→Calls Tryz.prog 25 #[.int .i64 K.tick,.int .i64 0,.int .i64 1000000] W fun e w'=>e=.returned (.bool b3)∧W=w'):=fun W hW=>by rw[aQ];exact bb _ _ _ W
 obtain⟨b4,cq⟩:∃ b4,b4=(within K.given 0 K.now):=⟨_,rfl⟩
 have eX:Hid (∀ W,Bel w1 W→Calls Tryz.prog 25 #[.int .i64 K.given,.int .i64 0,.int .i64 K.now] W fun e w'=>e=.returned (.bool b4)∧W=w'):=fun W hW=>by rw[cq];exact bb _ _ _ W
 obtain⟨b5,gv⟩:∃ b5,b5=(ec L K):=⟨_,rfl⟩
 have LH:Hid (b1=true→∀ W,Bel w1 W→Calls Tryz.prog 26 #[.agg #[.slice (some ⟨a0,0,none⟩) L.shapes.length L.shapes.length,.slice (some ⟨a1,0,none⟩) L.mends.length L.mends.length,.slice (some ⟨a2,0,none⟩) L.teams.length L.teams.length],.agg #[.int .i64 K.now,.int .i64 K.tick,.int .i64 K.given,.slice (some ⟨e0,0,none⟩) K.objects.length K.objects.length,.slice (some ⟨e1,0,none⟩) K.grants.length K.grants.length,.slice (some ⟨e2,0,none⟩) K.ledgers.length K.ledgers.length,.slice (some ⟨e3,0,none⟩) K.purses.length K.purses.length]] W fun e w'=>e=.returned (.bool b5)∧Bel W w'):=fun hh W hW=>by rw[gv];exact ud L K a0 a1 a2 e0 e1 e2 e3 W (HA.out.1.later (aa cN.out hW)) (HA.out.2.later (aa cN.out hW)) (pE (bj.symm.trans hh)).1 (pE (bj.symm.trans hh)).2
 obtain⟨b6,xK⟩:∃ b6,b6=(eU K):=⟨_,rfl⟩
 have Ko:Hid (∀ W,Bel w1 W→Calls Tryz.prog 27 #[.agg #[.int .i64 K.now,.int .i64 K.tick,.int .i64 K.given,.slice (some ⟨e0,0,none⟩) K.objects.length K.objects.length,.slice (some ⟨e1,0,none⟩) K.grants.length K.grants.length,.slice (some ⟨e2,0,none⟩) K.ledgers.length K.ledgers.length,.slice (some ⟨e3,0,none⟩) K.purses.length K.purses.length]] W fun e w'=>e=.returned (.bool b6)∧Bel W w'):=fun W hW=>by rw[xK];exact xt K e0 e1 e2 e3 W (HA.out.2.later (aa cN.out hW))
 obtain⟨b7,Ba⟩:∃ b7,b7=(dM L K&&eF K&&ij L K):=⟨_,rfl⟩
 have KZ:Hid (b3=true→∀ W,Bel w1 W→Calls Tryz.prog 28 #[.agg #[.slice (some ⟨a0,0,none⟩) L.shapes.length L.shapes.length,.slice (some ⟨a1,0,none⟩) L.mends.length L.mends.length,.slice (some ⟨a2,0,none⟩) L.teams.length L.teams.length],.agg #[.int .i64 K.now,.int .i64 K.tick,.int .i64 K.given,.slice (some ⟨e0,0,none⟩) K.objects.length K.objects.length,.slice (some ⟨e1,0,none⟩) K.grants.length K.grants.length,.slice (some ⟨e2,0,none⟩) K.ledgers.length K.ledgers.length,.slice (some ⟨e3,0,none⟩) K.purses.length K.purses.length]] W fun e w'=>e=.returned (.bool b7)∧Bel W w'):=fun hh W hW=>by rw[Ba];exact BL L K a0 a1 a2 e0 e1 e2 e3 W (HA.out.1.later (aa cN.out hW)) (HA.out.2.later (aa cN.out hW)) (lB (aQ.symm.trans hh)).1 (lB (aQ.symm.trans hh)).2
 have HP:Hid (jt L K=(b1&&b2&&b3&&b4&&b5&&b6&&b7)):=by
  show jt L K=_;unfold jt fW;rw[bj,aA,aQ,cq,gv,xK,Ba];cases ff L<;>cases within K.now 0 1000000<;>cases within K.tick 0 1000000<;>cases within K.given 0 K.now<;>cases ec L K<;>cases eU K<;>cases dM L K<;>cases eF K<;>rfl
 rw[HP.out];clear bj aA aQ cq gv xK Ba HP;have HK:Hid (Bel w1 w1):=br;go_enter Tryz.func7,Tryz.ntmps7
 go_upto_region 1 with fail
 rw[← dW];clear dW;obtain⟨aR,bB⟩:=dD.out w1 HK.out;obtain⟨yz,y0,y1,y2,y3,y4,y5,y6⟩:=aR;obtain⟨lz,l0,l1,l2⟩:=bB;go_wp2_with fail
 refine(eu.out w1 HK.out).mono ?_;rintro e cR ⟨rfl,mw⟩;have iB:=aa HK.out mw;clear HK;have HK:=hid iB;clear iB mw;clear yz y0 y1 y2 y3 y4 y5 y6 lz l0 l1 l2;cases b1
 ·obtain⟨aR,bB⟩:=dD.out cR HK.out;obtain⟨yz,y0,y1,y2,y3,y4,y5,y6⟩:=aR;obtain⟨lz,l0,l1,l2⟩:=bB;go_wp2;go_ret;exact⟨Pl.ae (by simp),aa cN.out HK.out⟩
 ·obtain⟨aR,bB⟩:=dD.out cR HK.out;obtain⟨yz,y0,y1,y2,y3,y4,y5,y6⟩:=aR;obtain⟨lz,l0,l1,l2⟩:=bB;go_wp2_with fail
  refine(fV.out cR HK.out).mono ?_;rintro e w7 ⟨rfl,rfl⟩;clear yz y0 y1 y2 y3 y4 y5 y6 lz l0 l1 l2;cases b2
  ·obtain⟨aR,bB⟩:=dD.out cR HK.out;obtain⟨yz,y0,y1,y2,y3,y4,y5,y6⟩:=aR;obtain⟨lz,l0,l1,l2⟩:=bB;go_wp2;go_ret;exact⟨Pl.ae (by simp),aa cN.out HK.out⟩
  ·obtain⟨aR,bB⟩:=dD.out cR HK.out;obtain⟨yz,y0,y1,y2,y3,y4,y5,y6⟩:=aR;obtain⟨lz,l0,l1,l2⟩:=bB;go_wp2_with fail
   refine(fc.out cR HK.out).mono ?_;rintro e w7 ⟨rfl,rfl⟩;clear yz y0 y1 y2 y3 y4 y5 y6 lz l0 l1 l2;cases b3
   ·obtain⟨aR,bB⟩:=dD.out cR HK.out;obtain⟨yz,y0,y1,y2,y3,y4,y5,y6⟩:=aR;obtain⟨lz,l0,l1,l2⟩:=bB;go_wp2;go_ret;exact⟨Pl.ae (by simp),aa cN.out HK.out⟩
   ·obtain⟨aR,bB⟩:=dD.out cR HK.out;obtain⟨yz,y0,y1,y2,y3,y4,y5,y6⟩:=aR;obtain⟨lz,l0,l1,l2⟩:=bB;go_wp2_with fail
    refine(eX.out cR HK.out).mono ?_;rintro e w7 ⟨rfl,rfl⟩;clear yz y0 y1 y2 y3 y4 y5 y6 lz l0 l1 l2;cases b4
    ·obtain⟨aR,bB⟩:=dD.out cR HK.out;obtain⟨yz,y0,y1,y2,y3,y4,y5,y6⟩:=aR;obtain⟨lz,l0,l1,l2⟩:=bB;go_wp2;go_ret;exact⟨Pl.ae (by simp),aa cN.out HK.out⟩
    ·obtain⟨aR,bB⟩:=dD.out cR HK.out;obtain⟨yz,y0,y1,y2,y3,y4,y5,y6⟩:=aR;obtain⟨lz,l0,l1,l2⟩:=bB;go_wp2_with fail
     refine(LH.out (by first|exact trivial|rfl) cR HK.out).mono ?_;rintro e KO ⟨rfl,mw⟩;have iB:=aa HK.out mw;clear HK;have HK:=hid iB;clear iB mw;clear yz y0 y1 y2 y3 y4 y5 y6 lz l0 l1 l2;cases b5
     ·obtain⟨aR,bB⟩:=dD.out KO HK.out;obtain⟨yz,y0,y1,y2,y3,y4,y5,y6⟩:=aR;obtain⟨lz,l0,l1,l2⟩:=bB;go_wp2;go_ret;exact⟨Pl.ae (by simp),aa cN.out HK.out⟩
     ·obtain⟨aR,bB⟩:=dD.out KO HK.out;obtain⟨yz,y0,y1,y2,y3,y4,y5,y6⟩:=aR;obtain⟨lz,l0,l1,l2⟩:=bB;go_wp2_with fail
      refine(Ko.out KO HK.out).mono ?_;rintro e La ⟨rfl,mw⟩;have iB:=aa HK.out mw;clear HK;have HK:=hid iB;clear iB mw;clear yz y0 y1 y2 y3 y4 y5 y6 lz l0 l1 l2;cases b6
      ·obtain⟨aR,bB⟩:=dD.out La HK.out;obtain⟨yz,y0,y1,y2,y3,y4,y5,y6⟩:=aR;obtain⟨lz,l0,l1,l2⟩:=bB;go_wp2;go_ret;exact⟨Pl.ae (by simp),aa cN.out HK.out⟩
      ·obtain⟨aR,bB⟩:=dD.out La HK.out;obtain⟨yz,y0,y1,y2,y3,y4,y5,y6⟩:=aR;obtain⟨lz,l0,l1,l2⟩:=bB;go_wp2_with fail
       refine(KZ.out (by first|exact trivial|rfl) La HK.out).mono ?_;rintro e w26 ⟨rfl,mw⟩;have iB:=aa HK.out mw;clear HK;have HK:=hid iB;clear iB mw;clear yz y0 y1 y2 y3 y4 y5 y6 lz l0 l1 l2;obtain⟨aR,bB⟩:=dD.out w26 HK.out;obtain⟨yz,y0,y1,y2,y3,y4,y5,y6⟩:=aR;obtain⟨lz,l0,l1,l2⟩:=bB;go_wp2;go_ret;exact⟨Pl.ae (by simp),aa cN.out HK.out⟩
set_option maxRecDepth 8000
set_option maxHeartbeats 40000000
open Go.RowKit Go.Deep
theorem wv (L:Lw) (lv0 lv1 lv2:Value) (K:Bk) (bv0 bv1 bv2 bv3:Value)  (w:World) (h0:tw w lv0 lv1 lv2 L) (h1:s8 w bv0 bv1 bv2 bv3 K):
  Calls Tryz.prog 3 #[.agg #[lv0,lv1,lv2],.agg #[.int .i64 K.now,.int .i64 K.tick,.int .i64 K.given,bv0,bv1,bv2,bv3]] w fun e w'=>e=.returned (.bool true)∧Bel w w':=by
 have HH:=hid (And.intro h0 h1);clear h0 h1;obtain⟨wa,dX⟩:∃ wa,wa=(w.alloc (.cells #[lv0,lv1,lv2] 26)).alloc (.cells #[.int .i64 K.now,.int .i64 K.tick,.int .i64 K.given,bv0,bv1,bv2,bv3] 32):=⟨_,rfl⟩
 have ea:Hid (Bel w wa):=by show Below _ _ _;rw[dX];exact(ab (ab br _) _)
 have iC:Hid (ch wa w.heap.size (lv0) (lv1) (lv2)∧bm wa (w.heap.size+1) (.int .i64 K.now) (.int .i64 K.tick) (.int .i64 K.given) (bv0) (bv1) (bv2) (bv3)):=by show _∧_;rw[dX];exact⟨((ch.bV _ _ _ _ _ _ (by simp)).ek _),(bm.bV _ _ _ _ _ _ _ _ _ _ (by simp))⟩
 go_enter Tryz.func3,Tryz.ntmps3
 go_upto_region 1 with fail
 rw[← dX];clear dX;obtain⟨y0z,y0_0,y0_1,y0_2⟩:=iC.out.1;obtain⟨y1z,y1_0,y1_1,y1_2,y1_3,y1_4,y1_5,y1_6⟩:=iC.out.2;go_wp2_with fail
 refine(G4 L lv0 lv1 lv2 1048576 wa (by omega) (by omega) (HH.out.1.later ea.out)).mono ?_;rintro e wb ⟨⟨r0,rfl,hr⟩,hb⟩;have q7:=hid hr.2.2;have q0: -1≤r0:=hr.1;have q0':r0≤1048576:=hr.2.1;have jf:=hid (aa ea.out hb);have kE:=hid (And.intro (iC.out.1.later hb) (iC.out.2.later hb));clear hr hb y0z y0_0 y0_1 y0_2 y1z y1_0 y1_1 y1_2 y1_3 y1_4 y1_5 y1_6 iC ea;by_cases c0:r0<0
 ·go_wp2;go_ret;exact⟨rfl,jf.out⟩
 have HS0:=hid (q7.out (by omega));clear q7;obtain⟨y0z,y0_0,y0_1,y0_2⟩:=kE.out.1;obtain⟨y1z,y1_0,y1_1,y1_2,y1_3,y1_4,y1_5,y1_6⟩:=kE.out.2;go_wp2_with fail
 refine(Ej K bv0 bv1 bv2 bv3 r0 wb (by omega) (by omega) (HH.out.2.later jf.out)).mono ?_;rintro e wc ⟨⟨r1,rfl,hr⟩,hb⟩;have Bb:=hid hr.2.2;have q1: -1≤r1:=hr.1;have q1':r1≤r0:=hr.2.1;have jO:=hid (aa jf.out hb);have ly:=hid (And.intro (kE.out.1.later hb) (kE.out.2.later hb));clear hr hb y0z y0_0 y0_1 y0_2 y1z y1_0 y1_1 y1_2 y1_3 y1_4 y1_5 y1_6 kE jf;by_cases c1:r1<0
 ·go_wp2;go_ret;exact⟨rfl,jO.out⟩
 have Gk:=hid (Bb.out (by omega));clear Bb;have K0:Hid (∀ W,Bel w W→Calls Tryz.prog 8 #[.agg #[lv0,lv1,lv2]] W fun e w'=>∃ a0x a1x a2x,(e=.returned (.agg #[.slice (some ⟨a0x,0,none⟩) L.shapes.length L.shapes.length,.slice (some ⟨a1x,0,none⟩) L.mends.length L.mends.length,.slice (some ⟨a2x,0,none⟩) L.teams.length L.teams.length])∧iy w' a0x a1x a2x L)∧Bel W w'):=by
  intro W hW;refine(GU L lv0 lv1 lv2 W HS0.out (HH.out.1.later hW)).mono ?_;rintro e w' ⟨⟨a0x,a1x,a2x,rfl,hi,_⟩,hb⟩;exact⟨a0x,a1x,a2x,⟨rfl,hi⟩,hb⟩
 have Gw:Hid (∀ W,Bel w W→Calls Tryz.prog 9 #[.agg #[.int .i64 K.now,.int .i64 K.tick,.int .i64 K.given,bv0,bv1,bv2,bv3]] W fun e w'=>∃ e0x e1x e2x e3x,(e=.returned (.agg #[.int .i64 K.now,.int .i64 K.tick,.int .i64 K.given,.slice (some ⟨e0x,0,none⟩) K.objects.length K.objects.length,.slice (some ⟨e1x,0,none⟩) K.grants.length K.grants.length,.slice (some ⟨e2x,0,none⟩) K.ledgers.length K.ledgers.length,.slice (some ⟨e3x,0,none⟩) K.purses.length K.purses.length])∧gp w' e0x e1x e2x e3x K)∧Bel W w'):=by
  intro W hW;refine(D8 K bv0 bv1 bv2 bv3 W Gk.out (HH.out.2.later hW)).mono ?_;rintro e w' ⟨⟨e0x,e1x,e2x,e3x,rfl,hi,_⟩,hb⟩;exact⟨e0x,e1x,e2x,e3x,⟨rfl,hi⟩,hb⟩
 have Lr:Hid (∀ W a0x a1x a2x e0x e1x e2x e3x,iy W a0x a1x a2x L→gp W e0x e1x e2x e3x K→Calls Tryz.prog 7 #[.agg #[.slice (some ⟨a0x,0,none⟩) L.shapes.length L.shapes.length,.slice (some ⟨a1x,0,none⟩) L.mends.length L.mends.length,.slice (some ⟨a2x,0,none⟩) L.teams.length L.teams.length],.agg #[.int .i64 K.now,.int .i64 K.tick,.int .i64 K.given,.slice (some ⟨e0x,0,none⟩) K.objects.length K.objects.length,.slice (some ⟨e1x,0,none⟩) K.grants.length K.grants.length,.slice (some ⟨e2x,0,none⟩) K.ledgers.length K.ledgers.length,.slice (some ⟨e3x,0,none⟩) K.purses.length K.purses.length]] W fun e w'=>e=.returned (.bool (jt L K))∧Bel W w'):=fun W a0x a1x a2x e0x e1x e2x e3x k0 k1=>Bs L K _ _ _ _ _ _ _ W k0 k1;have Lz:Hid (∀ W a0x a1x a2x e0x e1x e2x e3x,iy W a0x a1x a2x L→gp W e0x e1x e2x e3x K→Calls Tryz.prog 10 #[.agg #[.slice (some ⟨a0x,0,none⟩) L.shapes.length L.shapes.length,.slice (some ⟨a1x,0,none⟩) L.mends.length L.mends.length,.slice (some ⟨a2x,0,none⟩) L.teams.length L.teams.length],.agg #[.int .i64 K.now,.int .i64 K.tick,.int .i64 K.given,.slice (some ⟨e0x,0,none⟩) K.objects.length K.objects.length,.slice (some ⟨e1x,0,none⟩) K.grants.length K.grants.length,.slice (some ⟨e2x,0,none⟩) K.ledgers.length K.ledgers.length,.slice (some ⟨e3x,0,none⟩) K.purses.length K.purses.length]] W fun e w'=>e=.returned (.bool (jt L K))∧Bel W w'):=fun W a0x a1x a2x e0x e1x e2x e3x k0 k1=>B0 L K _ _ _ _ _ _ _ W k0 k1;obtain⟨an,han⟩:∃ an,an=jt L K:=⟨_,rfl⟩
 rw[← han]at Lr Lz;clear han;obtain⟨y0z,y0_0,y0_1,y0_2⟩:=ly.out.1;obtain⟨y1z,y1_0,y1_1,y1_2,y1_3,y1_4,y1_5,y1_6⟩:=ly.out.2;go_upto_region 8 with fail
 go_cut [6] (fun sA wx=>sA=.bool an∧Bel wc wx)
 case first=>
  have HXl:Hid (∀ W,Bel wc W→ch W w.heap.size (lv0) (lv1) (lv2)∧bm W (w.heap.size+1) (.int .i64 K.now) (.int .i64 K.tick) (.int .i64 K.given) (bv0) (bv1) (bv2) (bv3)):=fun W hW=>⟨ly.out.1.later hW,ly.out.2.later hW⟩
  go_region_with (first
   |(go_at_call 8;refine(K0.out _ ?_).mono ?_;(repeat(first|exact jO.out|refine Below.drew ?_));rintro e wN0 ⟨a0x,a1x,a2x,⟨rfl,yj⟩,yn⟩;have LP:Bel wc wN0:=aa (by repeat(first|exact br|refine Below.drew ?_)) yn;clear yn;obtain⟨⟨g0z,g0_0,g0_1,g0_2⟩,⟨g1z,g1_0,g1_1,g1_2,g1_3,g1_4,g1_5,g1_6⟩⟩:=HXl.out wN0 LP)
   |(go_at_call 9;refine(Gw.out _ ?_).mono ?_;(repeat(first|exact aa jO.out LP|refine Below.drew ?_));rintro e wN1 ⟨e0x,e1x,e2x,e3x,⟨rfl,A6⟩,yn⟩;have kb1:Bel wc wN1:=aa (by repeat(first|exact LP|refine Below.drew ?_)) yn;have yj:=yj.later (aa (by repeat(first|exact br|refine Below.drew ?_)) yn);clear yn;obtain⟨⟨g0z,g0_0,g0_1,g0_2⟩,⟨g1z,g1_0,g1_1,g1_2,g1_3,g1_4,g1_5,g1_6⟩⟩:=HXl.out wN1 kb1)
   |(go_at_call 7;refine(Lr.out _ _ _ _ _ _ _ _ ?_ ?_).mono ?_;exact yj.later (by repeat(first|exact br|refine Below.drew ?_));exact A6.later (by repeat(first|exact br|refine Below.drew ?_));rintro e wC ⟨rfl,DE⟩;have kC:Bel wc wC:=aa (by repeat(first|exact kb1|refine Below.drew ?_)) DE;clear DE))
  all_goals
   go_wp2_with fail
   go_meet
   refine⟨rfl, ?_⟩;repeat(first|exact kC|refine Below.drew ?_)
 case rest=>
 obtain⟨rfl,hb⟩:=hcut;rename World=>wd;have lY:=hid (aa jO.out hb);have py:=hid (And.intro (ly.out.1.later hb) (ly.out.2.later hb));clear hb y0z y0_0 y0_1 y0_2 y1z y1_0 y1_1 y1_2 y1_3 y1_4 y1_5 y1_6 ly jO Lr;obtain⟨y0z,y0_0,y0_1,y0_2⟩:=py.out.1;obtain⟨y1z,y1_0,y1_1,y1_2,y1_3,y1_4,y1_5,y1_6⟩:=py.out.2;go_wp2_with fail
 refine(K0.out _ lY.out).mono ?_;rintro e we ⟨a0p,a1p,a2p,⟨rfl,hi⟩,hb⟩;obtain⟨wf,CR⟩:∃ wf,wf=we.alloc (.cells #[.slice (some ⟨a0p,0,none⟩) L.shapes.length L.shapes.length,.slice (some ⟨a1p,0,none⟩) L.mends.length L.mends.length,.slice (some ⟨a2p,0,none⟩) L.teams.length L.teams.length] 40):=⟨_,rfl⟩
 obtain⟨m0,AH⟩:∃ m0,m0=we.heap.size:=⟨_,rfl⟩
 have xO:Bel we wf:=by rw[CR];exact ab br _
 have EW:Hid (ch wf m0 (.slice (some ⟨a0p,0,none⟩) L.shapes.length L.shapes.length) (.slice (some ⟨a1p,0,none⟩) L.mends.length L.mends.length) (.slice (some ⟨a2p,0,none⟩) L.teams.length L.teams.length)):=by show ch _ _ _ _ _;rw[CR,AH];exact ch.bV _ _ _ _ _ _ rfl
 have Ia:=hid (hi.later xO);have CO:=hid (aa (aa lY.out hb) xO);have Dq:=hid (And.intro ((py.out.1.later hb).later xO) ((py.out.2.later hb).later xO));go_upto_region 10 with fail
 rw[← CR,← AH];clear CR AH hi hb xO y0z y0_0 y0_1 y0_2 y1z y1_0 y1_1 y1_2 y1_3 y1_4 y1_5 y1_6 py lY;obtain⟨y0z,y0_0,y0_1,y0_2⟩:=Dq.out.1;obtain⟨y1z,y1_0,y1_1,y1_2,y1_3,y1_4,y1_5,y1_6⟩:=Dq.out.2;obtain⟨x0z,x0_0,x0_1,x0_2⟩:=EW.out;go_wp2_with fail
 refine(Gw.out _ CO.out).mono ?_;rintro e wg ⟨e0p,e1p,e2p,e3p,⟨rfl,hi⟩,hb⟩;obtain⟨wh,CR⟩:∃ wh,wh=wg.alloc (.cells #[.int .i64 K.now,.int .i64 K.tick,.int .i64 K.given,.slice (some ⟨e0p,0,none⟩) K.objects.length K.objects.length,.slice (some ⟨e1p,0,none⟩) K.grants.length K.grants.length,.slice (some ⟨e2p,0,none⟩) K.ledgers.length K.ledgers.length,.slice (some ⟨e3p,0,none⟩) K.purses.length K.purses.length] 47):=⟨_,rfl⟩
 obtain⟨m1,gk⟩:∃ m1,m1=wg.heap.size:=⟨_,rfl⟩
 have xO:Bel wg wh:=by rw[CR];exact ab br _
 have FP:Hid (bm wh m1 (.int .i64 K.now) (.int .i64 K.tick) (.int .i64 K.given) (.slice (some ⟨e0p,0,none⟩) K.objects.length K.objects.length) (.slice (some ⟨e1p,0,none⟩) K.grants.length K.grants.length) (.slice (some ⟨e2p,0,none⟩) K.ledgers.length K.ledgers.length) (.slice (some ⟨e3p,0,none⟩) K.purses.length K.purses.length)):=by show bm _ _ _ _ _ _ _ _ _;rw[CR,gk];exact bm.bV _ _ _ _ _ _ _ _ _ _ rfl
 have Fu:=hid (hi.later xO);have IS:=hid (aa (aa CO.out hb) xO);have GF:=hid (And.intro ((Dq.out.1.later hb).later xO) ((Dq.out.2.later hb).later xO));have E7:=hid ((EW.out.later hb).later xO);have Ga:=hid ((Ia.out.later hb).later xO);go_upto_region 11 with fail
 rw[← CR,← gk];clear CR gk hi hb xO y0z y0_0 y0_1 y0_2 y1z y1_0 y1_1 y1_2 y1_3 y1_4 y1_5 y1_6 Dq CO EW Ia x0z x0_0 x0_1 x0_2;obtain⟨x0z,x0_0,x0_1,x0_2⟩:=E7.out;obtain⟨x1z,x1_0,x1_1,x1_2,x1_3,x1_4,x1_5,x1_6⟩:=FP.out;go_wp2_with fail
 refine(Lz.out _ _ _ _ _ _ _ _ Ga.out Fu.out).mono ?_;rintro e wi ⟨rfl,hb⟩;have Ho:=hid (aa IS.out hb);have Gf:=hid (And.intro (GF.out.1.later hb) (GF.out.2.later hb));have CP:=hid (E7.out.later hb);have Fy:=hid (Ga.out.later hb);have ET:=hid (FP.out.later hb);have Iz:=hid (Fu.out.later hb);clear hb x0z x0_0 x0_1 x0_2 x1z x1_0 x1_1 x1_2 x1_3 x1_4 x1_5 x1_6 GF IS Lz E7 Ga FP Fu;have hneq:(an !=an)=false:=by cases an<;>rfl
 obtain⟨y0z,y0_0,y0_1,y0_2⟩:=Gf.out.1;obtain⟨y1z,y1_0,y1_1,y1_2,y1_3,y1_4,y1_5,y1_6⟩:=Gf.out.2;obtain⟨x0z,x0_0,x0_1,x0_2⟩:=CP.out;obtain⟨x1z,x1_0,x1_1,x1_2,x1_3,x1_4,x1_5,x1_6⟩:=ET.out;have yb:=hid fun (W:World) a0x a1x a2x (hW:Bel wi W) (h2:iy W a0x a1x a2x L)=>GP L a0p a1p a2p a0x a1x a2x W (Fy.out.later hW) h2;have oU:Hid (∀ W,Bel wi W→ch W m0 (.slice (some ⟨a0p,0,none⟩) L.shapes.length L.shapes.length) (.slice (some ⟨a1p,0,none⟩) L.mends.length L.mends.length) (.slice (some ⟨a2p,0,none⟩) L.teams.length L.teams.length)):=fun W hW=>CP.out.later hW;go_upto_region 14 with fail
 go_cut [39] (fun sA wx=>sA=.bool false∧Bel wi wx)
 case first=>
  go_region_with (first
   |(go_at_call 8;refine(K0.out _ ?_).mono ?_;(repeat(first|exact Ho.out|refine Below.drew ?_));rintro e wN ⟨a0x,a1x,a2x,⟨rfl,Kr⟩,yn⟩;have kN:Bel wi wN:=aa (by repeat(first|exact br|refine Below.drew ?_)) yn;clear yn;obtain⟨jz,j_0,j_1,j_2⟩:=oU.out wN kN)
   |(go_at_call 11;refine(yb.out _ _ _ _ ?_ ?_).mono ?_;(repeat(first|exact kN|refine Below.drew ?_));exact Kr.later (by repeat(first|exact br|refine Below.drew ?_));rintro e wC ⟨rfl,DE⟩;have kC:Bel wi wC:=aa (by repeat(first|exact kN|refine Below.drew ?_)) DE;clear DE))
  all_goals
   go_wp2_with fail
   go_meet
   refine⟨rfl, ?_⟩;repeat(first|exact kC|refine Below.drew ?_)
 case rest=>
 obtain⟨rfl,hb⟩:=hcut;rename World=>wj;have LF:=hid (aa Ho.out hb);have Jt:=hid (And.intro (Gf.out.1.later hb) (Gf.out.2.later hb));have FO:=hid (CP.out.later hb);have Ja:=hid (Fy.out.later hb);have CL:=hid (ET.out.later hb);have Fe:=hid (Iz.out.later hb);clear hb y0z y0_0 y0_1 y0_2 y1z y1_0 y1_1 y1_2 y1_3 y1_4 y1_5 y1_6 x0z x0_0 x0_1 x0_2 x1z x1_0 x1_1 x1_2 x1_3 x1_4 x1_5 x1_6 Gf Ho yb oU CP Fy ET Iz;obtain⟨y0z,y0_0,y0_1,y0_2⟩:=Jt.out.1;obtain⟨y1z,y1_0,y1_1,y1_2,y1_3,y1_4,y1_5,y1_6⟩:=Jt.out.2;obtain⟨x0z,x0_0,x0_1,x0_2⟩:=FO.out;obtain⟨x1z,x1_0,x1_1,x1_2,x1_3,x1_4,x1_5,x1_6⟩:=CL.out;have yb:=hid fun (W:World) e0x e1x e2x e3x (hW:Bel wj W) (h2:gp W e0x e1x e2x e3x K)=>DY K e0p e1p e2p e3p e0x e1x e2x e3x W (Fe.out.later hW) h2;have oU:Hid (∀ W,Bel wj W→bm W m1 (.int .i64 K.now) (.int .i64 K.tick) (.int .i64 K.given) (.slice (some ⟨e0p,0,none⟩) K.objects.length K.objects.length) (.slice (some ⟨e1p,0,none⟩) K.grants.length K.grants.length) (.slice (some ⟨e2p,0,none⟩) K.ledgers.length K.ledgers.length) (.slice (some ⟨e3p,0,none⟩) K.purses.length K.purses.length)):=fun W hW=>CL.out.later hW;go_upto_region 16 with fail
 go_cut [44] (fun sA wx=>sA=.bool false∧Bel wj wx)
 case first=>
  go_region_with (first
   |(go_at_call 9;refine(Gw.out _ ?_).mono ?_;(repeat(first|exact LF.out|refine Below.drew ?_));rintro e wN ⟨e0x,e1x,e2x,e3x,⟨rfl,Kr⟩,yn⟩;have kN:Bel wj wN:=aa (by repeat(first|exact br|refine Below.drew ?_)) yn;clear yn;obtain⟨jz,j_0,j_1,j_2,j_3,j_4,j_5,j_6⟩:=oU.out wN kN)
   |(go_at_call 12;refine(yb.out _ _ _ _ _ ?_ ?_).mono ?_;(repeat(first|exact kN|refine Below.drew ?_));exact Kr.later (by repeat(first|exact br|refine Below.drew ?_));rintro e wC ⟨rfl,DE⟩;have kC:Bel wj wC:=aa (by repeat(first|exact kN|refine Below.drew ?_)) DE;clear DE))
  all_goals
   go_wp2_with fail
   go_meet
   refine⟨rfl, ?_⟩;repeat(first|exact kC|refine Below.drew ?_)
 case rest=>
 obtain⟨rfl,hb⟩:=hcut;rename World=>wk;have HBk:=hid (aa LF.out hb);have HXk:=hid (And.intro (Jt.out.1.later hb) (Jt.out.2.later hb));have HY0k:=hid (FO.out.later hb);have HI0k:=hid (Ja.out.later hb);have HY1k:=hid (CL.out.later hb);have HI1k:=hid (Fe.out.later hb);clear hb y0z y0_0 y0_1 y0_2 y1z y1_0 y1_1 y1_2 y1_3 y1_4 y1_5 y1_6 x0z x0_0 x0_1 x0_2 x1z x1_0 x1_1 x1_2 x1_3 x1_4 x1_5 x1_6 Jt LF yb oU FO Ja CL Fe;go_wp2;go_ret;exact⟨rfl,HBk.out⟩
end Go.Proofs.YtbiokpmdghmgcaaGreat
