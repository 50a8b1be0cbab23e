import Derived.Test.YtbiokpmdghmgcaaGreatPlainMd
namespace Go.Proofs.YtbiokpmdghmgcaaGreat
set_option maxRecDepth 8000
set_option maxHeartbeats 40000000
open Go.RowKit Go.Deep
theorem tI {w:World} {g b:Nat} {z:ByteArray} {k:Int} (h:w.cell? ⟨g,0,none⟩=some (.string z)) (h':w.cell? ⟨b,0,none⟩=some (.int .i64 k)):b≠g:=by
 intro e;subst e;rw[h]at h';cases h'
theorem dp.sc {w:World} {v:Value} {l:List Nat} (h:dp w v l) {g:Nat} {z:ByteArray} (hz:w.cell? ⟨g,0,none⟩=some (.string z)) (p:Nat) (x:Value):dp (w.setCell ⟨g,p,none⟩ x) v l:=by
 rcases h with h|⟨b,c,rfl,h1,h2,h3⟩
 ·exact Or.inl h
 ·refine Or.inr ⟨b,c,rfl,by rw[bc];exact h1,h2,fun i hi=> ?_⟩;have fa:=tI hz (h3 0 (by omega));rw[aF _ _ _ _ _ _ (Or.inl fa)];exact h3 i hi
theorem iJ.sc {w:World} {v:Value} {ns:List kS} (h:iJ w v ns) {g:Nat} {z:ByteArray} (hz:w.cell? ⟨g,0,none⟩=some (.string z)) (p:Nat) (x:Value):iJ (w.setCell ⟨g,p,none⟩ x) v ns:=by
 rcases h with h|⟨b,c,rfl,h1,h2⟩
 ·exact Or.inl h
 ·refine Or.inr ⟨b,c,rfl,by rw[bc];exact h1,fun i hi=> ?_⟩;have fa:=tI hz (h2 0 (by omega)).1;exact⟨(aF _ _ _ _ _ _ (Or.inl fa)).trans (h2 i hi).1,(aF _ _ _ _ _ _ (Or.inl fa)).trans (h2 i hi).2.1,(aF _ _ _ _ _ _ (Or.inl fa)).trans (h2 i hi).2.2⟩
theorem fg.sc {w:World} {v:Value} {L:List Mng} (h:fg w v L) {g:Nat} {z:ByteArray} (hz:w.cell? ⟨g,0,none⟩=some (.string z)) (p:Nat) (x:Value):fg (w.setCell ⟨g,p,none⟩ x) v L:=by
 rcases h with h|⟨b,c,rfl,h1,h2⟩
 ·exact Or.inl h
 ·refine Or.inr ⟨b,c,rfl,by rw[bc];exact h1,fun i hi=> ?_⟩;obtain⟨a0,e0,h0⟩:=h2 0 (by omega);have fa:b≠g:=tI hz (by simpa using h0.c0);obtain⟨a,d,hm⟩:=h2 i hi;exact⟨a,d,(aF _ _ _ _ _ _ (Or.inl fa)).trans hm.c0,(aF _ _ _ _ _ _ (Or.inl fa)).trans hm.c1,(aF _ _ _ _ _ _ (Or.inl fa)).trans hm.c2,(aF _ _ _ _ _ _ (Or.inl fa)).trans hm.c3,hm.needs.sc hz p x⟩
theorem fg.len {w:World} {a:Option Addr} {n c:Nat} {L:List Mng} (h:fg w (.slice a n c) L):n=L.length:=by
 rcases h with⟨rfl,a',c',e⟩|⟨g,c',e,_⟩
 ·injection e
 ·injection e
theorem dp.Ki {w:World} {a:Option Addr} {n c:Nat} {l:List Nat} (h:dp w (.slice a n c) l):n=l.length:=by
 rcases h with⟨rfl,a',c',e⟩|⟨g,c',e,_⟩
 ·injection e
 ·injection e
theorem rZ (B mb:Nat) (ss:List Shp) (ms:List Mnd) (o:Ob) (b1:Option Addr) (c1:Nat) (b2:Option Addr) (c2:Nat) (w:World) (h:bd w B ss) (hm:dy w mb ms) (gJ:aO ss ms=true) (ho:ObG w b1 c1 b2 c2 o):
  Calls Tryz.prog 185 #[.slice (some ⟨B,0,none⟩) ss.length ss.length,.slice (some ⟨mb,0,none⟩) ms.length ms.length,.agg #[.string o.kind,.string o.name,.string o.team,.slice b1 o.values.length c1,.bool o.ending,.slice b2 o.holds.length c2,.int .i64 o.version]] w fun e w'=>(∃ a1 n1 d1 a2 n2 d2 mid,e=.returned (.agg #[.string o.kind,.string o.name,.string o.team,.slice a1 n1 d1,.bool o.ending,.slice a2 n2 d2,.int .i64 o.version])∧CT w' w.heap.size mid (.slice a1 n1 d1) (bl ss ms o.kind o.values)∧CT w' mid w'.heap.size (.slice a2 n2 d2) o.holds∧w.heap.size≤mid∧mid≤w'.heap.size)∧Bel w w':=by
 have HA:=hid (And.intro h (And.intro hm ho));have uN:=hid gJ;have hl:=h.len;have Gg:=hm.len;have s6:=ho.len1;clear h hm ho gJ;obtain⟨w0,gi⟩:∃ w0,w0=(w.alloc (.cells #[.string o.kind,.string o.name,.string o.team,.slice b1 o.values.length c1,.bool o.ending,.slice b2 o.holds.length c2,.int .i64 o.version] 111)).alloc (.cells #[.string ⟨#[]⟩,.string ⟨#[]⟩,.string ⟨#[]⟩,.slice none 0 0,.bool false,.slice none 0 0,.int .i64 0] 111):=⟨_,rfl⟩
 have fT:Hid (Bel w w0):=by show Below _ _ _;rw[gi];exact ab (ab br _) _
 have q7:Hid (ai w0 (w.heap.size+1) 111 7):=by show ai _ _ _ _;rw[gi];exact ai.gI _ _ _ _ _ rfl (by simp)
 have qi:Hid (w0.heap.size=w.heap.size+2):=by show _=_;rw[gi];simp
 have uP:Hid (∀ W,Bel w0 W→w.heap.size<W.heap.size∧∀ j,W.cell? ⟨w.heap.size,j,none⟩=(#[.string o.kind,.string o.name,.string o.team,.slice b1 o.values.length c1,.bool o.ending,.slice b2 o.holds.length c2,.int .i64 o.version]:Array Value)[j]?):=by
  intro W hW;have q:w.heap.size<w0.heap.size:=by have:=qi.out;omega
  refine⟨lo q hW.size,fun j=>(hW.cell (p:=⟨w.heap.size,j,none⟩) q).trans ?_⟩;rw[gi];exact(World.cell?_alloc_past _ _ _ (by simp)).trans (World.cell?_alloc_at _ _ _ _ rfl)
 obtain⟨xz,xs⟩:=uP.out w0 br;have x0:w0.cell? ⟨w.heap.size,0,none⟩=some (.string o.kind):=xs 0;have x1:w0.cell? ⟨w.heap.size,1,none⟩=some (.string o.name):=xs 1;have x2:w0.cell? ⟨w.heap.size,2,none⟩=some (.string o.team):=xs 2;have x3:w0.cell? ⟨w.heap.size,3,none⟩=some (.slice b1 o.values.length c1):=xs 3;have x4:w0.cell? ⟨w.heap.size,4,none⟩=some (.bool o.ending):=xs 4;have x5:w0.cell? ⟨w.heap.size,5,none⟩=some (.slice b2 o.holds.length c2):=xs 5;have x6:w0.cell? ⟨w.heap.size,6,none⟩=some (.int .i64 o.version):=xs 6;clear xs;go_enter Tryz.func185,Tryz.ntmps185
 go_upto_region 1 with fail
 rw[← gi];clear gi;go_wp2_with fail
 refine(vm o b1 c1 b2 c2 w0 (HA.out.2.2.later fT.out)).mono ?_;rintro e w1 ⟨⟨a1,n1,d1,a2,n2,d2,mid,rfl,eH,fw,gk,gQ⟩,bj⟩;rw[qi.out]at eH gk;have sN:w.heap.size+2≤w1.heap.size:=by have:=bj.size;rw[qi.out]at this;exact this
 have cN:=hid (aa fT.out bj);obtain⟨w2,i3⟩:∃ w2,w2=w1.alloc (.cells #[.string o.kind,.string o.name,.string o.team,.slice a1 n1 d1,.bool o.ending,.slice a2 n2 d2,.int .i64 o.version] 111):=⟨_,rfl⟩
 obtain⟨X,hX⟩:∃ X,X=w1.heap.size:=⟨_,rfl⟩
 have aA:Bel w1 w2:=by rw[i3];exact ab br _
 have uD:Hid (fU w w2 X mid o o.values (.slice a1 n1 d1) (.slice a2 n2 d2)):=by
  show fU _ _ _ _ _ _ _ _;rw[hX];have q:∀ j,w2.cell? ⟨w1.heap.size,j,none⟩=(#[.string o.kind,.string o.name,.string o.team,.slice a1 n1 d1,.bool o.ending,.slice a2 n2 d2,.int .i64 o.version]:Array Value)[j]? :=fun j=>by rw[i3];exact World.cell?_alloc_at _ _ _ _ rfl
  exact⟨aa cN.out aA,(q7.out.later bj).later aA,by rw[i3];simp,q 0,q 1,q 2,q 3,q 4,q 5,q 6,eH.later aA,fw.later aA,gk,gQ⟩
 have iB:=hid (aa bj aA);go_upto_region 2 with fail
 rw[← i3,← hX];clear i3 hX bj aA eH fw gk gQ sN x0 x1 x2 x3 x4 x5 x6 xz;obtain⟨xz,xs⟩:=uP.out w2 iB.out;have x0:w2.cell? ⟨w.heap.size,0,none⟩=some (.string o.kind):=xs 0;clear xs;go_wp2_with fail
 refine(jB w B ss o.kind w2 HA.out.1 uD.out.bel).mono ?_;rintro e w3 ⟨kd,a,n,c,rfl,kD,aQ⟩;obtain⟨R,hR⟩:∃ R,R=aJ ss o.kind:=⟨_,rfl⟩
 rw[← hR];have mW:=hid kD;have fA:=hid hR;clear hR kD x0 xz;obtain⟨w4,ej⟩:∃ w4,w4=w3.alloc (.cells #[.string kd,.slice a n c] 134):=⟨_,rfl⟩
 obtain⟨S,hS⟩:∃ S,S=w3.heap.size:=⟨_,rfl⟩
 have cq:Bel w3 w4:=by rw[ej];exact ab br _
 have mZ:=hid ((uD.out.later aQ).later cq);have AS:=hid (aa (aa iB.out aQ) cq);have JC:Hid (S<w4.heap.size∧w4.cell? ⟨S,0,none⟩=some (.string kd)∧w4.cell? ⟨S,1,none⟩=some (.slice a n c)):=by
  refine⟨?_, ?_, ?_⟩<;>rw[ej,hS]<;>simp
 go_upto_region 3 with fail
 rw[← ej,← hS];clear ej hS aQ cq uD iB;obtain⟨xz,xs⟩:=uP.out w4 AS.out;have x3:w4.cell? ⟨w.heap.size,3,none⟩=some (.slice b1 o.values.length c1):=xs 3;clear xs;obtain⟨sz,g0,g1⟩:=JC.out;obtain⟨_,_,z1,X0,X1,X2,X3,X4,X5,X6,_,_,_,_⟩:=mZ.out;cases R
 ·have HF:Hid (bl ss ms o.kind o.values=o.values):=by show bl _ _ _ _=_;unfold bl;rw[if_neg];rw[← fA.out];simp
  have hR:=mZ.out.own;have hF:=hR.frozen;have z2:=hR.lt;obtain⟨y0,ke⟩:=hR.cell 0 (by omega);obtain⟨y1,kg⟩:=hR.cell 1 (by omega);obtain⟨y2,kk⟩:=hR.cell 2 (by omega);obtain⟨y3,kf⟩:=hR.cell 3 (by omega);obtain⟨y4,sO⟩:=hR.cell 4 (by omega);obtain⟨y5,sJ⟩:=hR.cell 5 (by omega);obtain⟨y6,sM⟩:=hR.cell 6 (by omega);clear hR;go_wp2;obtain⟨r,_,t1,t2,t3,t4,t5⟩:=mZ.out.out [.string o.kind,.string o.name,.string o.team,.slice a1 n1 d1,.bool o.ending,.slice a2 n2 d2,.int .i64 o.version] rfl;have r0:(((((((w4.setCell ⟨w.heap.size+1,0,none⟩ (.string o.kind)).setCell ⟨w.heap.size+1,1,none⟩ (.string o.name)).setCell ⟨w.heap.size+1,2,none⟩ (.string o.team)).setCell ⟨w.heap.size+1,3,none⟩ (.slice a1 n1 d1)).setCell ⟨w.heap.size+1,4,none⟩ (.bool o.ending)).setCell ⟨w.heap.size+1,5,none⟩ (.slice a2 n2 d2)).setCell ⟨w.heap.size+1,6,none⟩ (.int .i64 o.version)).cell? ⟨w.heap.size+1,0,none⟩=some (.string o.kind):=r 0 (by omega);have r1:(((((((w4.setCell ⟨w.heap.size+1,0,none⟩ (.string o.kind)).setCell ⟨w.heap.size+1,1,none⟩ (.string o.name)).setCell ⟨w.heap.size+1,2,none⟩ (.string o.team)).setCell ⟨w.heap.size+1,3,none⟩ (.slice a1 n1 d1)).setCell ⟨w.heap.size+1,4,none⟩ (.bool o.ending)).setCell ⟨w.heap.size+1,5,none⟩ (.slice a2 n2 d2)).setCell ⟨w.heap.size+1,6,none⟩ (.int .i64 o.version)).cell? ⟨w.heap.size+1,1,none⟩=some (.string o.name):=r 1 (by omega);have r2:(((((((w4.setCell ⟨w.heap.size+1,0,none⟩ (.string o.kind)).setCell ⟨w.heap.size+1,1,none⟩ (.string o.name)).setCell ⟨w.heap.size+1,2,none⟩ (.string o.team)).setCell ⟨w.heap.size+1,3,none⟩ (.slice a1 n1 d1)).setCell ⟨w.heap.size+1,4,none⟩ (.bool o.ending)).setCell ⟨w.heap.size+1,5,none⟩ (.slice a2 n2 d2)).setCell ⟨w.heap.size+1,6,none⟩ (.int .i64 o.version)).cell? ⟨w.heap.size+1,2,none⟩=some (.string o.team):=r 2 (by omega);have r3:(((((((w4.setCell ⟨w.heap.size+1,0,none⟩ (.string o.kind)).setCell ⟨w.heap.size+1,1,none⟩ (.string o.name)).setCell ⟨w.heap.size+1,2,none⟩ (.string o.team)).setCell ⟨w.heap.size+1,3,none⟩ (.slice a1 n1 d1)).setCell ⟨w.heap.size+1,4,none⟩ (.bool o.ending)).setCell ⟨w.heap.size+1,5,none⟩ (.slice a2 n2 d2)).setCell ⟨w.heap.size+1,6,none⟩ (.int .i64 o.version)).cell? ⟨w.heap.size+1,3,none⟩=some (.slice a1 n1 d1):=r 3 (by omega);have r4:(((((((w4.setCell ⟨w.heap.size+1,0,none⟩ (.string o.kind)).setCell ⟨w.heap.size+1,1,none⟩ (.string o.name)).setCell ⟨w.heap.size+1,2,none⟩ (.string o.team)).setCell ⟨w.heap.size+1,3,none⟩ (.slice a1 n1 d1)).setCell ⟨w.heap.size+1,4,none⟩ (.bool o.ending)).setCell ⟨w.heap.size+1,5,none⟩ (.slice a2 n2 d2)).setCell ⟨w.heap.size+1,6,none⟩ (.int .i64 o.version)).cell? ⟨w.heap.size+1,4,none⟩=some (.bool o.ending):=r 4 (by omega);have r5:(((((((w4.setCell ⟨w.heap.size+1,0,none⟩ (.string o.kind)).setCell ⟨w.heap.size+1,1,none⟩ (.string o.name)).setCell ⟨w.heap.size+1,2,none⟩ (.string o.team)).setCell ⟨w.heap.size+1,3,none⟩ (.slice a1 n1 d1)).setCell ⟨w.heap.size+1,4,none⟩ (.bool o.ending)).setCell ⟨w.heap.size+1,5,none⟩ (.slice a2 n2 d2)).setCell ⟨w.heap.size+1,6,none⟩ (.int .i64 o.version)).cell? ⟨w.heap.size+1,5,none⟩=some (.slice a2 n2 d2):=r 5 (by omega);have r6:(((((((w4.setCell ⟨w.heap.size+1,0,none⟩ (.string o.kind)).setCell ⟨w.heap.size+1,1,none⟩ (.string o.name)).setCell ⟨w.heap.size+1,2,none⟩ (.string o.team)).setCell ⟨w.heap.size+1,3,none⟩ (.slice a1 n1 d1)).setCell ⟨w.heap.size+1,4,none⟩ (.bool o.ending)).setCell ⟨w.heap.size+1,5,none⟩ (.slice a2 n2 d2)).setCell ⟨w.heap.size+1,6,none⟩ (.int .i64 o.version)).cell? ⟨w.heap.size+1,6,none⟩=some (.int .i64 o.version):=r 6 (by omega);refine bodyPost_ret (v:=.agg #[.string o.kind,.string o.name,.string o.team,.slice a1 n1 d1,.bool o.ending,.slice a2 n2 d2,.int .i64 o.version]) (by simp only[results,Tryz.results185];simp[go_sem,r0,r1,r2,r3,r4,r5,r6]) rfl ⟨⟨_,_,_,_,_,_,mid,rfl, ?_,t2,t3,t4⟩,t5⟩;rw[HF.out];exact t1
 obtain⟨x8,b,hv,gK,hf⟩:=mW.out fA.out.symm;obtain⟨s,hs⟩:∃ s,s=ss.getD (aB ss o.kind) Shp.none:=⟨_,rfl⟩
 rw[← hs]at x8 hv hf;injection hv with oS qY qS
 subst oS qY qS x8;have u5:aB ss o.kind<ss.length:=by have:=fA.out.symm;simpa [aJ]using this
 have lu:=uN.out;unfold aO at lu;simp only[Bool.and_eq_true]at lu;obtain⟨⟨⟨yl,xT⟩,AX⟩,Gi⟩:=lu;have qZ:Hid (bW w b s.fields):=by
  have dO:=HA.out.1.small s (by rw[hs];simp[u5]);exact⟨gK,dO.1,dO.2,hf⟩
 have AN:Hid (∀ m∈ms,bk s.kind m=true→found s.fields m):=by rw[hs];exact lD yl AX u5
 have Ku:Hid (∀ m∈ms,bk s.kind m=true→aL s.fields m=true):=by rw[hs];exact n6 yl AX u5
 have HRO:Hid (ib (gM (bx s.fields ms s.kind)) s.fields.length=true):=by
  unfold gL at Gi;rw[List.all_eq_true]at Gi;have:=Gi (aB ss o.kind) (List.mem_range.2 u5);rw[← hs]at this;exact this
 have jr:ms.length≤12:=of_decide_eq_true xT;have HS:=hid hs;have iZ:=qZ.out.len;clear gK hf hs u5 yl xT AX Gi mW;by_cases heq:o.values.length=s.fields.length
 case neg=>
  have HF:Hid (bl ss ms o.kind o.values=o.values):=by show bl _ _ _ _=_;unfold bl;rw[if_neg];rw[← HS.out];exact fun hh=>heq hh.2
  have fa:(((o.values.length:Int)) !=(s.fields.length:Int))=true:=by simp;omega
  have hR:=mZ.out.own;have hF:=hR.frozen;have z2:=hR.lt;obtain⟨y0,ke⟩:=hR.cell 0 (by omega);obtain⟨y1,kg⟩:=hR.cell 1 (by omega);obtain⟨y2,kk⟩:=hR.cell 2 (by omega);obtain⟨y3,kf⟩:=hR.cell 3 (by omega);obtain⟨y4,sO⟩:=hR.cell 4 (by omega);obtain⟨y5,sJ⟩:=hR.cell 5 (by omega);obtain⟨y6,sM⟩:=hR.cell 6 (by omega);clear hR;go_wp2;obtain⟨r,_,t1,t2,t3,t4,t5⟩:=mZ.out.out [.string o.kind,.string o.name,.string o.team,.slice a1 n1 d1,.bool o.ending,.slice a2 n2 d2,.int .i64 o.version] rfl;have r0:(((((((w4.setCell ⟨w.heap.size+1,0,none⟩ (.string o.kind)).setCell ⟨w.heap.size+1,1,none⟩ (.string o.name)).setCell ⟨w.heap.size+1,2,none⟩ (.string o.team)).setCell ⟨w.heap.size+1,3,none⟩ (.slice a1 n1 d1)).setCell ⟨w.heap.size+1,4,none⟩ (.bool o.ending)).setCell ⟨w.heap.size+1,5,none⟩ (.slice a2 n2 d2)).setCell ⟨w.heap.size+1,6,none⟩ (.int .i64 o.version)).cell? ⟨w.heap.size+1,0,none⟩=some (.string o.kind):=r 0 (by omega);have r1:(((((((w4.setCell ⟨w.heap.size+1,0,none⟩ (.string o.kind)).setCell ⟨w.heap.size+1,1,none⟩ (.string o.name)).setCell ⟨w.heap.size+1,2,none⟩ (.string o.team)).setCell ⟨w.heap.size+1,3,none⟩ (.slice a1 n1 d1)).setCell ⟨w.heap.size+1,4,none⟩ (.bool o.ending)).setCell ⟨w.heap.size+1,5,none⟩ (.slice a2 n2 d2)).setCell ⟨w.heap.size+1,6,none⟩ (.int .i64 o.version)).cell? ⟨w.heap.size+1,1,none⟩=some (.string o.name):=r 1 (by omega);have r2:(((((((w4.setCell ⟨w.heap.size+1,0,none⟩ (.string o.kind)).setCell ⟨w.heap.size+1,1,none⟩ (.string o.name)).setCell ⟨w.heap.size+1,2,none⟩ (.string o.team)).setCell ⟨w.heap.size+1,3,none⟩ (.slice a1 n1 d1)).setCell ⟨w.heap.size+1,4,none⟩ (.bool o.ending)).setCell ⟨w.heap.size+1,5,none⟩ (.slice a2 n2 d2)).setCell ⟨w.heap.size+1,6,none⟩ (.int .i64 o.version)).cell? ⟨w.heap.size+1,2,none⟩=some (.string o.team):=r 2 (by omega);have r3:(((((((w4.setCell ⟨w.heap.size+1,0,none⟩ (.string o.kind)).setCell ⟨w.heap.size+1,1,none⟩ (.string o.name)).setCell ⟨w.heap.size+1,2,none⟩ (.string o.team)).setCell ⟨w.heap.size+1,3,none⟩ (.slice a1 n1 d1)).setCell ⟨w.heap.size+1,4,none⟩ (.bool o.ending)).setCell ⟨w.heap.size+1,5,none⟩ (.slice a2 n2 d2)).setCell ⟨w.heap.size+1,6,none⟩ (.int .i64 o.version)).cell? ⟨w.heap.size+1,3,none⟩=some (.slice a1 n1 d1):=r 3 (by omega);have r4:(((((((w4.setCell ⟨w.heap.size+1,0,none⟩ (.string o.kind)).setCell ⟨w.heap.size+1,1,none⟩ (.string o.name)).setCell ⟨w.heap.size+1,2,none⟩ (.string o.team)).setCell ⟨w.heap.size+1,3,none⟩ (.slice a1 n1 d1)).setCell ⟨w.heap.size+1,4,none⟩ (.bool o.ending)).setCell ⟨w.heap.size+1,5,none⟩ (.slice a2 n2 d2)).setCell ⟨w.heap.size+1,6,none⟩ (.int .i64 o.version)).cell? ⟨w.heap.size+1,4,none⟩=some (.bool o.ending):=r 4 (by omega);have r5:(((((((w4.setCell ⟨w.heap.size+1,0,none⟩ (.string o.kind)).setCell ⟨w.heap.size+1,1,none⟩ (.string o.name)).setCell ⟨w.heap.size+1,2,none⟩ (.string o.team)).setCell ⟨w.heap.size+1,3,none⟩ (.slice a1 n1 d1)).setCell ⟨w.heap.size+1,4,none⟩ (.bool o.ending)).setCell ⟨w.heap.size+1,5,none⟩ (.slice a2 n2 d2)).setCell ⟨w.heap.size+1,6,none⟩ (.int .i64 o.version)).cell? ⟨w.heap.size+1,5,none⟩=some (.slice a2 n2 d2):=r 5 (by omega);have r6:(((((((w4.setCell ⟨w.heap.size+1,0,none⟩ (.string o.kind)).setCell ⟨w.heap.size+1,1,none⟩ (.string o.name)).setCell ⟨w.heap.size+1,2,none⟩ (.string o.team)).setCell ⟨w.heap.size+1,3,none⟩ (.slice a1 n1 d1)).setCell ⟨w.heap.size+1,4,none⟩ (.bool o.ending)).setCell ⟨w.heap.size+1,5,none⟩ (.slice a2 n2 d2)).setCell ⟨w.heap.size+1,6,none⟩ (.int .i64 o.version)).cell? ⟨w.heap.size+1,6,none⟩=some (.int .i64 o.version):=r 6 (by omega);refine bodyPost_ret (v:=.agg #[.string o.kind,.string o.name,.string o.team,.slice a1 n1 d1,.bool o.ending,.slice a2 n2 d2,.int .i64 o.version]) (by simp only[results,Tryz.results185];simp[go_sem,r0,r1,r2,r3,r4,r5,r6]) rfl ⟨⟨_,_,_,_,_,_,mid,rfl, ?_,t2,t3,t4⟩,t5⟩;rw[HF.out];exact t1
 have fa:(((o.values.length:Int)) !=(s.fields.length:Int))=false:=by simp;omega
 obtain⟨L,Dt⟩:∃ L,L=bx s.fields ms s.kind:=⟨_,rfl⟩
 obtain⟨row,jR⟩:∃ row,row=cn (gM L) s.fields.length s.fields.length:=⟨_,rfl⟩
 have HF:Hid (bl ss ms o.kind o.values=eY L o.values row):=by
  show bl _ _ _ _=_;unfold bl mv rowAt mv;rw[← HS.out,if_pos ⟨fA.out.symm,heq⟩,jR,Dt]
 have AY:=hid Dt;have Gs:=hid jR;have yb:=hid heq;have CD:Hid (L.length≤12∧∀ x∈L,x.needs.length≤2):=by rw[Dt];exact⟨Nat.le_trans (sb _ _ _) jr,pY _ _ _⟩
 clear Dt jR heq;go_wp2_with fail
 refine(nV s b mb ms w4 (qZ.out.later mZ.out.bel) (HA.out.2.1.later mZ.out.bel) AN.out).mono ?_;rintro e w5 ⟨⟨am,nm,cm,rfl,KT⟩,gv⟩;rw[← AY.out]at KT;have Lq:=KT.at_;obtain rfl:nm=L.length:=Lq.len;have iE:=hid Lq;have HI5:=hid (mZ.out.later gv);have g0':=(gv.cell (p:=⟨S,0,none⟩) sz).trans g0;have g1':=(gv.cell (p:=⟨S,1,none⟩) sz).trans g1;have sz':=lo sz gv.size;clear Lq KT gv sz g0 g1 x3 xz z1 X0 X1 X2 X3 X4 X5 X6 mZ AS JC;go_wp2_with fail
 refine(sC s.kind s.fields.length _ _ am L.length cm L w5 iZ iE.out CD.out.1 CD.out.2).mono ?_;rintro e w6 ⟨⟨ar,kr,dr,rfl,Gm⟩,xK⟩;have Gy:ib (gM L) s.fields.length=true:=by rw[AY.out];exact HRO.out
 have Gm:=Gm Gy;rw[← Gs.out]at Gm;obtain rfl:kr=row.length:=Gm.Ki;have KM:=hid (And.intro (HI5.out.later xK) (And.intro (iE.out.later xK) Gm));have Im:Hid (row.length≤1048576∧∀ i,i<row.length→row.getD i 0<o.values.length):=by
  refine⟨?_,fun i hi=> ?_⟩
  ·have:=jH (gM L) s.fields.length s.fields.length;rw[← Gs.out]at this;omega
  ·rw[yb.out];have e:row.getD i 0=row[i]:=by simp[hi]
   have:=kx (gM L) s.fields.length s.fields.length row[i] (by rw[← Gs.out];exact List.getElem_mem hi);rw[e];exact this
 have EV:=Im.out.1;clear xK Gm Gy g0' g1' sz' HI5 iE HRO;go_wp2;go_loopw [14,15,16,49] (fun s14 s15 s16 cH wr=>∃ q:Nat,q≤row.length∧cH=.int .i64 q∧fU w wr X mid o (eY L o.values (row.take q)) (.slice a1 n1 d1) (.slice a2 n2 d2)∧fg wr (.slice am L.length cm) L∧dp wr (.slice ar row.length dr) row) (fun _ _ _ cH _=>row.length - (intOf cH).toNat)
 case atStart=>exact⟨0,nz,rfl,KM.out⟩
 case round=>
  obtain⟨q,hq,rfl,hI,hMg,hIn⟩:=hrel;obtain⟨vs,mP⟩:∃ vs,vs=eY L o.values (row.take q):=⟨_,rfl⟩
  have FK:=hid mP;rw[← mP]at hI;clear mP;have HI:=hid hI;have Jg:=hid (And.intro hMg hIn);have uS:vs.length=o.values.length:=by rw[FK.out];exact jx _ _ _
  have Dz:=hid uS;obtain⟨_,_,z1,X0,X1,X2,X3,X4,X5,X6,FM,_,_,_⟩:=hI;clear hMg;by_cases aw:q<row.length
  ·obtain⟨p,hp⟩:∃ p,p=row.getD q 0:=⟨_,rfl⟩
   have eI:p<vs.length:=by rw[uS,hp];exact Im.out.2 q aw
   have gS:Hid (eY L o.values (row.take (q+1))=dg L vs p):=by show eY _ _ _=_;rw[mB L o.values row q aw,← FK.out,hp]
   rcases hIn with⟨e0,_⟩|⟨gr,cr,e0,JP,_,FE⟩
   ·rw[e0]at aw;exact absurd aw (Nat.not_lt_zero q)
   injection e0 with e1 _ e3
   subst e1 e3;have i0:=FE q aw;rw[← hp]at i0;rcases FM with⟨_,e2⟩|⟨g,cap,e1,Lo,vJ,FF,Ig,GA⟩
   ·rw[e2]at eI;exact absurd eI (Nat.not_lt_zero p)
   injection e1 with e1 e3 e4
   subst e1 e3 e4;have Jz:Hid (VAt wr g vs):=⟨FF.lt,by omega,GA⟩
   have HG:=hid (And.intro FF (And.intro Ig (GA 0 (by omega))));have HDC:Hid (Calls Tryz.prog 207 #[.slice am L.length cm,.int .i64 (p:Nat),.slice (some ⟨g,0,none⟩) vs.length d1] wr fun e w'=>(∃ (f:Nat) (a:Option Addr) (k c:Nat) (pt:ByteArray) (fr:Nat),e=.returned (.tuple #[.agg #[.int .i64 (f:Nat),.slice a k c,.string pt,.int .i64 (fr:Nat)],.bool (decide (dq L p vs<L.length))])∧(dq L p vs<L.length→pt=(L.getD (dq L p vs) Mng.none).put∧fr=(L.getD (dq L p vs) Mng.none).frm))∧Bel wr w'):=
    vU am cm p g d1 L vs wr Jg.out.1 CD.out.1 CD.out.2 (by rw[Dz.out,yb.out,AY.out];exact Cx AN.out) Jz.out
   have It:Hid (dq L p vs<L.length→(L.getD (dq L p vs) Mng.none).put.toList.isEmpty=true→(L.getD (dq L p vs) Mng.none).frm<vs.length):=by
    intro hd he;have xS:L.getD (dq L p vs) Mng.none∈L:=by simp[hd]
    rw[Dz.out,yb.out];have:=Ei AN.out Ku.out;rw[← AY.out]at this;exact this _ xS he
   clear FE hp Lo vJ FF Ig GA uS;go_wp2_with fail
   refine HDC.out.mono ?_;rintro e w7 ⟨⟨f,a',k',c',pt,fr,rfl,IB⟩,Ba⟩;obtain⟨db,KQ⟩:∃ db,db=decide (dq L p vs<L.length):=⟨_,rfl⟩
   rw[← KQ];have HDB:=hid KQ;have HDE:=hid IB;clear KQ IB HDC;obtain⟨w8,JO⟩:∃ w8,w8=w7.alloc (.cells #[.int .i64 (f:Nat),.slice a' k' c',.string pt,.int .i64 (fr:Nat)] 238):=⟨_,rfl⟩
   obtain⟨M,hM⟩:∃ M,M=w7.heap.size:=⟨_,rfl⟩
   have hb8:Bel w7 w8:=by rw[JO];exact ab br _
   have AA:=hid (aa Ba hb8);have HM8:Hid (M<w8.heap.size∧w8.cell? ⟨M,0,none⟩=some (.int .i64 (f:Nat))∧w8.cell? ⟨M,1,none⟩=some (.slice a' k' c')∧w8.cell? ⟨M,2,none⟩=some (.string pt)∧w8.cell? ⟨M,3,none⟩=some (.int .i64 (fr:Nat))):=by
    refine⟨?_, ?_, ?_, ?_, ?_⟩<;>rw[JO,hM]
    ·simp
    all_goals exact World.cell?_alloc_at _ _ _ _ rfl
   go_upto_region 11 with fail
   rw[← JO,← hM];clear JO hM Ba hb8 z1 X0 X1 X2 X3 X4 X5 X6 i0 JP;cases db
   ·have HN:Hid (dg L vs p=vs):=by show dg _ _ _=_;unfold dg;rw[if_neg];exact of_decide_eq_false HDB.out.symm
    go_wp2;go_roundw
    case rel=>exact⟨q+1,by omega,by go_num,by rw[gS.out,HN.out];exact HI.out.later AA.out,Jg.out.1.later AA.out,Jg.out.2.later AA.out⟩
    case measure=>simp[intOf];omega
   ·have hd:=of_decide_eq_true HDB.out.symm;obtain⟨ept,efr⟩:=HDE.out hd;have HN:Hid (dg L vs p=vs.set p (if pt.toList.isEmpty then vs.getD fr ByteArray.empty else pt)):=by show dg _ _ _=_;unfold dg jd;rw[if_pos hd,ept,efr]
    have Br:Hid (∀ W,Bel w8 W→Calls Tryz.prog 208 #[.agg #[.int .i64 (f:Nat),.slice a' k' c',.string pt,.int .i64 (fr:Nat)],.slice (some ⟨g,0,none⟩) vs.length d1] W fun e w'=>e=.returned (.string (if pt.toList.isEmpty then vs.getD fr ByteArray.empty else pt))∧Bel W w'):=fun W hW=>DS f a' k' c' pt fr g d1 vs W ((Jz.out.later AA.out).later hW) (fun he=>by rw[efr];exact It.out hd (by rw[← ept];exact he));obtain⟨zz,lx⟩:∃ zz,zz=(if pt.toList.isEmpty then vs.getD fr ByteArray.empty else pt):=⟨_,rfl⟩
    rw[← lx]at HN Br;clear lx hd ept efr;have iG:Hid (∀ W,Bel w8 W→X<W.heap.size∧W.cell? ⟨X,3,none⟩=some (.slice (some ⟨g,0,none⟩) vs.length d1)∧W.frozen? ⟨g,p,none⟩=false∧g<W.heap.size∧∃ u,W.cell? ⟨g,p,none⟩=some u):=by
     intro W hW;have q1:=(HI.out.later AA.out).later hW;have q2:=(HG.out.1.later AA.out).later hW;have q3:=HG.out.2.1;exact⟨q1.lt,q1.x3,q2.frozen p,q2.lt,q2.cell p (by omega)⟩
    have J2:Hid (∀ W,Bel w8 W→fU w (W.setCell ⟨g,p,none⟩ (.string zz)) X mid o (eY L o.values (row.take (q+1))) (.slice (some ⟨g,0,none⟩) vs.length d1) (.slice a2 n2 d2)∧fg (W.setCell ⟨g,p,none⟩ (.string zz)) (.slice am L.length cm) L∧dp (W.setCell ⟨g,p,none⟩ (.string zz)) (.slice (some ⟨gr,0,none⟩) row.length dr) row):=by
     intro W hW;have hz:=(hW.cell (p:=⟨g,0,none⟩) (HG.out.1.later AA.out).lt).trans ((AA.out.cell (p:=⟨g,0,none⟩) HG.out.1.lt).trans HG.out.2.2);refine⟨?_,((Jg.out.1.later AA.out).later hW).sc hz _ _,((Jg.out.2.later AA.out).later hW).sc hz _ _⟩;rw[gS.out,HN.out];exact((HI.out.later AA.out).later hW).CC p eI zz
    obtain⟨mz,m0,m1,m2,m3⟩:=HM8.out;obtain⟨z1,X3,hF,xQ,u,hu⟩:=iG.out w8 br;go_wp2_with fail
    go_region_with (go_at_call 208;refine(Br.out _ ?_).mono ?_;(repeat(first|exact br|refine Below.drew ?_));rintro e w9 ⟨rfl,vR⟩;have k9:Bel w8 w9:=aa (by repeat(first|exact br|refine Below.drew ?_)) vR;clear vR;obtain⟨z9,X9,Ix,KH,u9,hu9⟩:=iG.out w9 k9)
    all_goals
     go_wp2;go_roundw
     case rel=>
      first
       |exact⟨q+1,by omega,by go_num,J2.out _ (by repeat(first|exact k9|refine Below.drew ?_))⟩
       |(have hh:=J2.out _ k9;exact⟨q+1,by omega,by go_num,hh.1.later (by repeat(first|exact br|refine Below.drew ?_)),hh.2.1.later (by repeat(first|exact br|refine Below.drew ?_)),hh.2.2.later (by repeat(first|exact br|refine Below.drew ?_))⟩)
     case measure=>simp[intOf];omega
  ·obtain rfl:q=row.length:=by omega
   have FR:Hid (bl ss ms o.kind o.values=vs):=by show bl _ _ _ _=_;rw[HF.out,FK.out,List.take_length]
   clear hIn FM uS;have hR:=HI.out.own;have hF:=hR.frozen;have z2:=hR.lt;obtain⟨y0,ke⟩:=hR.cell 0 (by omega);obtain⟨y1,kg⟩:=hR.cell 1 (by omega);obtain⟨y2,kk⟩:=hR.cell 2 (by omega);obtain⟨y3,kf⟩:=hR.cell 3 (by omega);obtain⟨y4,sO⟩:=hR.cell 4 (by omega);obtain⟨y5,sJ⟩:=hR.cell 5 (by omega);obtain⟨y6,sM⟩:=hR.cell 6 (by omega);clear hR;go_wp2;obtain⟨r,_,t1,t2,t3,t4,t5⟩:=HI.out.out [.string o.kind,.string o.name,.string o.team,.slice a1 n1 d1,.bool o.ending,.slice a2 n2 d2,.int .i64 o.version] rfl;have r0:(((((((wr.setCell ⟨w.heap.size+1,0,none⟩ (.string o.kind)).setCell ⟨w.heap.size+1,1,none⟩ (.string o.name)).setCell ⟨w.heap.size+1,2,none⟩ (.string o.team)).setCell ⟨w.heap.size+1,3,none⟩ (.slice a1 n1 d1)).setCell ⟨w.heap.size+1,4,none⟩ (.bool o.ending)).setCell ⟨w.heap.size+1,5,none⟩ (.slice a2 n2 d2)).setCell ⟨w.heap.size+1,6,none⟩ (.int .i64 o.version)).cell? ⟨w.heap.size+1,0,none⟩=some (.string o.kind):=r 0 (by omega);have r1:(((((((wr.setCell ⟨w.heap.size+1,0,none⟩ (.string o.kind)).setCell ⟨w.heap.size+1,1,none⟩ (.string o.name)).setCell ⟨w.heap.size+1,2,none⟩ (.string o.team)).setCell ⟨w.heap.size+1,3,none⟩ (.slice a1 n1 d1)).setCell ⟨w.heap.size+1,4,none⟩ (.bool o.ending)).setCell ⟨w.heap.size+1,5,none⟩ (.slice a2 n2 d2)).setCell ⟨w.heap.size+1,6,none⟩ (.int .i64 o.version)).cell? ⟨w.heap.size+1,1,none⟩=some (.string o.name):=r 1 (by omega);have r2:(((((((wr.setCell ⟨w.heap.size+1,0,none⟩ (.string o.kind)).setCell ⟨w.heap.size+1,1,none⟩ (.string o.name)).setCell ⟨w.heap.size+1,2,none⟩ (.string o.team)).setCell ⟨w.heap.size+1,3,none⟩ (.slice a1 n1 d1)).setCell ⟨w.heap.size+1,4,none⟩ (.bool o.ending)).setCell ⟨w.heap.size+1,5,none⟩ (.slice a2 n2 d2)).setCell ⟨w.heap.size+1,6,none⟩ (.int .i64 o.version)).cell? ⟨w.heap.size+1,2,none⟩=some (.string o.team):=r 2 (by omega);have r3:(((((((wr.setCell ⟨w.heap.size+1,0,none⟩ (.string o.kind)).setCell ⟨w.heap.size+1,1,none⟩ (.string o.name)).setCell ⟨w.heap.size+1,2,none⟩ (.string o.team)).setCell ⟨w.heap.size+1,3,none⟩ (.slice a1 n1 d1)).setCell ⟨w.heap.size+1,4,none⟩ (.bool o.ending)).setCell ⟨w.heap.size+1,5,none⟩ (.slice a2 n2 d2)).setCell ⟨w.heap.size+1,6,none⟩ (.int .i64 o.version)).cell? ⟨w.heap.size+1,3,none⟩=some (.slice a1 n1 d1):=r 3 (by omega);have r4:(((((((wr.setCell ⟨w.heap.size+1,0,none⟩ (.string o.kind)).setCell ⟨w.heap.size+1,1,none⟩ (.string o.name)).setCell ⟨w.heap.size+1,2,none⟩ (.string o.team)).setCell ⟨w.heap.size+1,3,none⟩ (.slice a1 n1 d1)).setCell ⟨w.heap.size+1,4,none⟩ (.bool o.ending)).setCell ⟨w.heap.size+1,5,none⟩ (.slice a2 n2 d2)).setCell ⟨w.heap.size+1,6,none⟩ (.int .i64 o.version)).cell? ⟨w.heap.size+1,4,none⟩=some (.bool o.ending):=r 4 (by omega);have r5:(((((((wr.setCell ⟨w.heap.size+1,0,none⟩ (.string o.kind)).setCell ⟨w.heap.size+1,1,none⟩ (.string o.name)).setCell ⟨w.heap.size+1,2,none⟩ (.string o.team)).setCell ⟨w.heap.size+1,3,none⟩ (.slice a1 n1 d1)).setCell ⟨w.heap.size+1,4,none⟩ (.bool o.ending)).setCell ⟨w.heap.size+1,5,none⟩ (.slice a2 n2 d2)).setCell ⟨w.heap.size+1,6,none⟩ (.int .i64 o.version)).cell? ⟨w.heap.size+1,5,none⟩=some (.slice a2 n2 d2):=r 5 (by omega);have r6:(((((((wr.setCell ⟨w.heap.size+1,0,none⟩ (.string o.kind)).setCell ⟨w.heap.size+1,1,none⟩ (.string o.name)).setCell ⟨w.heap.size+1,2,none⟩ (.string o.team)).setCell ⟨w.heap.size+1,3,none⟩ (.slice a1 n1 d1)).setCell ⟨w.heap.size+1,4,none⟩ (.bool o.ending)).setCell ⟨w.heap.size+1,5,none⟩ (.slice a2 n2 d2)).setCell ⟨w.heap.size+1,6,none⟩ (.int .i64 o.version)).cell? ⟨w.heap.size+1,6,none⟩=some (.int .i64 o.version):=r 6 (by omega);refine bodyPost_ret (v:=.agg #[.string o.kind,.string o.name,.string o.team,.slice a1 n1 d1,.bool o.ending,.slice a2 n2 d2,.int .i64 o.version]) (by simp only[results,Tryz.results185];simp[go_sem,r0,r1,r2,r3,r4,r5,r6]) rfl ⟨⟨_,_,_,_,_,_,mid,rfl, ?_,t2,t3,t4⟩,t5⟩;rw[FR.out];exact t1
end Go.Proofs.YtbiokpmdghmgcaaGreat
