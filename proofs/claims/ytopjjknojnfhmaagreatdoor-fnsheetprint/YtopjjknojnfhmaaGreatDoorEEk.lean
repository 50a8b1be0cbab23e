import Derived.Test.YtopjjknojnfhmaaGreatDoorEDq
namespace Go.Proofs.YtopjjknojnfhmaaGreatDoor
open Go.RowKit Go.Deep
def jx (W:World) (p o lo:Nat) (pre post:List Pl.Bl) (H:Nat→Prop):Prop:=∃ u m c1 c3 c4 F1 F4,aV W p u m∧o+(pre.length+1+post.length)*3≤m∧W.rangeAt p o (c1++(c3++c4))∧c3.length=3∧Rep W false (bf pre.length ak) F1 (pre.flatMap blD) c1∧Rep W false (bf post.length ak) F4 (post.flatMap blD) c4∧(∀ b∈F1++F4,lo≤b∧b≠p∧¬ H b)∧lo≤p∧¬ H p
theorem jx.later {W W':World} {p o lo:Nat} {pre post:List Pl.Bl} {H:Nat→Prop} (h:jx W p o lo pre post H) (hb:Bel W W'):jx W' p o lo pre post H:=by
 obtain⟨u,m,c1,c3,c4,F1,F4,h1,h2,h3,h4,h5,h6,h7,h8⟩:=h;exact⟨u,m,c1,c3,c4,F1,F4,h1.later hb,h2,aB h3 h1.lt hb,h4,h5.later hb,h6.later hb,h7,h8⟩
theorem jx.bo {W W':World} {T:Nat→Prop} {p o lo:Nat} {pre post:List Pl.Bl} {H:Nat→Prop} (h:jx W p o lo pre post H) (hb:Marks T W W') (hT:∀ b,T b→H b∨b<lo):jx W' p o lo pre post H:=by
 obtain⟨u,m,c1,c3,c4,F1,F4,h1,h2,h3,h4,h5,h6,h7,h8,h9⟩:=h;have hp:¬ T p:=fun e=>by rcases hT p e with q|q;exact h9 q;omega
 have hn:∀ b∈F1++F4,¬ T b:=fun b gb e=>by
  have:=h7 b gb;rcases hT b e with q|q
  ·exact this.2.2 q
  ·omega
 exact⟨u,m,c1,c3,c4,F1,F4,hb.own _ _ _ h1,h2,cO h3 fun j _=>hb.cell h1.lt hp _,h4,h5.bo hb fun b gb=>hn b (by simp[gb]),h6.bo hb fun b gb=>hn b (by simp[gb]),h7,h8,h9⟩
theorem jx.lo {W:World} {p o lo:Nat} {pre post:List Pl.Bl} {H:Nat→Prop} (h:jx W p o lo pre post H):lo≤p:=by
 obtain⟨u,m,_,_,_,_,_,h1,h2,h3,h4,h5,h6,h7,h8,_⟩:=h;exact h8
theorem jx.lt {W:World} {p o lo:Nat} {pre post:List Pl.Bl} {H:Nat→Prop} (h:jx W p o lo pre post H):p<W.heap.size:=by
 obtain⟨u,m,_,_,_,_,_,h1,_⟩:=h;exact h1.lt
theorem jx.there {W:World} {p o lo:Nat} {pre post:List Pl.Bl} {H:Nat→Prop} (h:jx W p o lo pre post H):W.there p (o+pre.length*3) 3:=by
 obtain⟨u,m,_,_,_,_,_,h1,h2,_⟩:=h;exact aR h1 _ _ (by omega)
theorem jx.fill {W:World} {p o lo N:Nat} {pre post:List Pl.Bl} {H:Nat→Prop} (h:jx W p o lo pre post H) (x:Pl.Bl) {lv:Value} (hD:Dat (fun b=>lo≤b∧b≠p) N N W bF [bT x.lines] [lv]) (hN:p<N):dQ (W.setCells p (o+pre.length*3) [.string x.kind,.string x.name,lv]) p o lo (pre++x::post):=by
 obtain⟨u,m,c1,c3,c4,F1,F4,h1,h2,h3,h4,r1,r4,h7,h8,_⟩:=h;obtain⟨FD,rD,fD⟩:=hD;have Oi:∀ b∈FD,lo≤b∧b≠p:=fun b hb=>by
  rcases fD b hb with q|q
  ·exact q.1
  ·exact⟨by omega,by omega⟩
 have hm:Marks (fun b=>b=p) W (W.setCells p (o+pre.length*3) [.string x.kind,.string x.name,lv]):=aM (S:=fun b=>b=p) rfl _ _ _;have mJ:c1.length=pre.length*3:=by rw[r1.len,bj];rfl
 have hc4:c4.length=post.length*3:=by rw[r4.len,bj];rfl
 have fJ:(pre++x::post).length=pre.length+1+post.length:=by simp;omega
 refine⟨u,m,c1++([.string x.kind,.string x.name,lv]++c4),F1++((FD++[])++F4),dB _ _ _ h1,by rw[fJ];exact h2, ?_, ?_,fun b hb=> ?_,h8⟩
 ·have:=yR h1 h3 [.string x.kind,.string x.name,lv] (by rw[h4];rfl) (by simp only[List.length_append];omega);rw[mJ]at this;exact this
 ·have hx:Rep W false ak (FD++[]) (blD x) [.string x.kind,.string x.name,lv]:=bG x.kind x.name rD;have e:bf (pre++x::post).length ak=bf pre.length ak++(ak++bf post.length ak):=by
   have hk:pre.length<(pre++x::post).length:=by simp
   rw[iy hk];congr 3;rw[fJ];omega
  have e2:(pre++x::post).flatMap blD=pre.flatMap blD++(blD x++post.flatMap blD):=by rw[List.flatMap_append,List.flatMap_cons]
  rw[e,e2];exact(r1.app (hx.app r4)).bo hm fun b hb e=>by
   have e:b=p:=e;simp only[List.mem_append,List.not_mem_nil,or_false]at hb;rcases hb with hb|hb|hb
   ·exact(h7 b (by simp[hb])).2.1 e
   ·exact(Oi b hb).2 e
   ·exact(h7 b (by simp[hb])).2.1 e
 ·simp only[List.mem_append,List.not_mem_nil,or_false]at hb;rcases hb with hb|hb|hb
  ·have:=h7 b (by simp[hb]);exact⟨this.1,this.2.1⟩
  ·exact Oi b hb
  ·have:=h7 b (by simp[hb]);exact⟨this.1,this.2.1⟩
theorem Gf {W:World} {F:List Nat} {l:List Pl.Bl} {v:Value} {lo k Q:Nat} (h:Rep W false bu F [bD l] [v]) (nd:F.Nodup) (bR:∀ b∈F,lo≤b∧b<Q) (hk:k<l.length):∃ p o c la lc Gk,v=.slice (some ⟨p,o,none⟩) l.length c∧(l.length≤maxLen∧l.length≤c)∧W.rangeAt p (o+k*3) [.string (l.getD k Pl.aN).kind,.string (l.getD k Pl.aN).name,.slice la (l.getD k Pl.aN).lines.length lc]∧Rep W false bF Gk [bT (l.getD k Pl.aN).lines] [.slice la (l.getD k Pl.aN).lines.length lc]∧Gk.Nodup∧(∀ b∈Gk,lo≤b∧b≠p∧b<Q)∧jx W p o lo (l.take k) (l.drop (k+1)) (fun b=>b∈Gk∨Q≤b)∧p<Q:=by
 rcases h.slice with⟨_,h0,_⟩|⟨p,o,c,u,m,G,hv,hF,hn,ho,hm,_,vs,hr,hR⟩
 ·omega
 subst hF;rw[List.nodup_cons]at nd;obtain⟨ndp,nd⟩:=nd;have fQ:vs.length=l.length*3:=by rw[hR.len,bj];rfl
 rw[iy hk]at hR;obtain⟨F1,F2,d1,d2,c1,c2,hF,hd,bg,r1,r2⟩:=Rep.cut _ hR;obtain⟨F3,F4,d3,d4,c3,c4,fk,NR,lQ,r3,r4⟩:=Rep.cut _ r2;subst hF;subst bg;subst fk;subst lQ;subst NR;have mJ:c1.length=k*3:=by rw[r1.len,bj];rfl
 have PM:c3.length=3:=by rw[r3.len];rfl
 have Hw:d1.length=k*3:=by rw[r1.raw.typ.len,bj];rfl
 have Od:d3.length=3:=by rw[r3.raw.typ.len];rfl
 have MM:l=l.take k++(l.getD k Pl.aN::l.drop (k+1)):=by
  have e:l.getD k Pl.aN=l[k]:=by simp[hk]
  rw[e,← List.drop_eq_getElem_cons hk,List.take_append_drop]
 have ht:((l.take k).flatMap blD).length=k*3:=by rw[fW blD 3 lE,List.length_take,Nat.min_eq_left (by omega)]
 have hs:l.flatMap blD=(l.take k).flatMap blD++(blD (l.getD k Pl.aN)++(l.drop (k+1)).flatMap blD):=by
  conv=>lhs;rw[MM]
  rw[List.flatMap_append,List.flatMap_cons]
 obtain⟨g1,g2⟩:=List.append_inj (hd.symm.trans hs) (by rw[Hw,ht]);obtain⟨g3,g4⟩:=List.append_inj g2 (by rw[Od];rfl);subst g1;subst g3;subst g4;obtain⟨Gk,v2,hG,hc,rk⟩:=ku r3;subst hc;obtain⟨la,lc,iI⟩:=rk.raw.bm;subst iI;have hG3:F3=Gk:=by rw[hG,List.append_nil]
 subst hG3;rw[List.nodup_append]at nd;obtain⟨n1,n2,n3⟩:=nd;rw[List.nodup_append]at n2;obtain⟨n4,n5,n6⟩:=n2;have tW:(l.take k).length=k:=by rw[List.length_take];omega
 have hld:(l.drop (k+1)).length=l.length - (k+1):=List.length_drop;refine⟨p,o,c,la,lc,F3,hv,⟨hn.1,hn.2.1⟩, ?_,rk,n4,fun b hb=>⟨(bR b (by simp[hb])).1,fun e=>ndp (by rw[← e];simp[hb]),(bR b (by simp[hb])).2⟩,⟨u,m,c1,_,c4,F1,F4,ho,by rw[tW,hld];have q2:o+l.length*3≤m:=hm;omega,hr,PM,by rw[tW];exact r1,by rw[hld];exact r4,fun b hb=> ?_,(bR p (by simp)).1, ?_⟩,(bR p (by simp)).2⟩
 ·have:=(dA (dA hr).2).1;rw[mJ]at this;exact this
 ·rcases List.mem_append.1 hb with q|q
  ·exact⟨(bR b (by simp[q])).1,fun e=>ndp (by rw[← e];simp[q]),fun eP=>by rcases eP with eP|eP;exact n3 b q b (by simp[eP]) rfl;have:=(bR b (by simp[q])).2;omega⟩
  ·exact⟨(bR b (by simp[q])).1,fun e=>ndp (by rw[← e];simp[q]),fun eP=>by rcases eP with eP|eP;exact n6 b eP b q rfl;have:=(bR b (by simp[q])).2;omega⟩
 ·rintro(hb|hb)
  ·exact ndp (by simp[hb])
  ·have:=(bR p (by simp)).2;omega
theorem Np:∀ (n:Nat) (es:List Dt),Typ (bf n aA) es→∃ l:List Pl.Ln,es=l.flatMap lnD∧l.length=n
 |0,es,h=>by rw[eK]at h;exact⟨[],h.c_n,rfl⟩
 |n+1,es,h=>by
  rw[bW]at h;obtain⟨d1,d2,rfl,h1,h2⟩:=Typ.cut aA h;obtain⟨l,rfl,hl⟩:=Np n d2 h2;obtain⟨k,m,e,rfl,ht⟩:=sX h1;obtain⟨ws,rfl,hw⟩:=IQ m e ht;subst hw;exact⟨⟨k,ws⟩::l,rfl,by rw[List.length_cons,hl]⟩
theorem Nu:∀ (n:Nat) (es:List Dt),Typ (bf n ak) es→∃ l:List Pl.Bl,es=l.flatMap blD∧l.length=n
 |0,es,h=>by rw[eK]at h;exact⟨[],h.c_n,rfl⟩
 |n+1,es,h=>by
  rw[bW]at h;obtain⟨d1,d2,rfl,h1,h2⟩:=Typ.cut ak h;obtain⟨l,rfl,hl⟩:=Nu n d2 h2;obtain⟨k,nm,m,e,rfl,ht⟩:=qH h1;obtain⟨ls,rfl,hw⟩:=Np m e ht;subst hw;exact⟨⟨k,nm,ls⟩::l,rfl,by rw[List.length_cons,hl]⟩
theorem KC (ds:List Dt) (h:Typ eU ds):∃ s:List Pl.Bl,ds=[bD s]:=by
 obtain⟨n,e,rfl,ht⟩:=DX h;obtain⟨s,rfl,hs⟩:=Nu n e ht;subst hs;exact⟨s,rfl⟩
theorem Gh (a b:List Pl.Bl):Pl.wsh (a++b)=Pl.wsh a+Pl.wsh b:=by
 unfold Pl.wsh;rw[List.map_append,List.sum_append]
theorem js (x:Pl.Bl) (s:List Pl.Bl):Pl.wsh (x::s)=Pl.wbl x+1+Pl.wsh s:=by
 unfold Pl.wsh;rw[List.map_cons,List.sum_cons]
theorem uS (s:List Pl.Bl) (x:Pl.Bl):Pl.wsh (s++[x])=Pl.wsh s+(Pl.wbl x+1):=by
 rw[Gh,js];simp[Pl.wsh]
theorem oi:∀ (s:List Pl.Bl) (k:Nat) (x:Pl.Bl),Pl.wsh (s.set k x)≤Pl.wsh s+(Pl.wbl x+1)
 |[],k,x=>by simp[Pl.wsh]
 |y::s,0,x=>by rw[List.set_cons_zero,js,js];omega
 |y::s,k+1,x=>by
  have:=oi s k x;rw[List.set_cons_succ,js,js];omega
def cD:List Dt→Nat
 |[]=>0
 |.row _ es::ds=>cD es+cD ds
 |.i _::ds=>cD ds
 |.b _::ds=>cD ds
 |.s _::ds=>cD ds+1
theorem iB:∀ (a b:List Dt),cD (a++b)=cD a+cD b
 |[],b=>by simp[cD]
 |.row n e::a,b=>by have:=iB a b;rw[List.cons_append,cD,cD];omega
 |.i n::a,b=>by have:=iB a b;rw[List.cons_append,cD,cD];omega
 |.b n::a,b=>by have:=iB a b;rw[List.cons_append,cD,cD];omega
 |.s n::a,b=>by have:=iB a b;rw[List.cons_append,cD,cD];omega
theorem PkD.wt {t:ByteArray} {x y:List Dt} (h:PkD t x y):wtL y≤wtL x+cD x*t.size:=by
 induction h with
 |nil=>exact Nat.le_add_right _ _
 |same a h ih=>
  cases a with
  |i n=>rw[wtL,wtL,cD];exact ih
  |b n=>rw[wtL,wtL,cD];exact ih
  |s n=>rw[wtL,wtL,cD,Nat.succ_mul];omega
  |row n e=>rw[wtL,wtL,cD,Nat.add_mul];omega
 |put a h ih=>rw[wtL,wtL,cD,Nat.succ_mul];omega
 |row n he h ih1 ih2=>rw[wtL,wtL,cD,Nat.add_mul];omega
theorem yL:∀ ws:List ByteArray,cD (txD ws)=ws.length
 |[]=>by simp[txD,cD]
 |x::ws=>by
  have:=yL ws;unfold txD at this ⊢;rw[List.map_cons,cD,List.length_cons,this]
theorem uU:∀ l:List Pl.Ln,(∀ x∈l,LnB x)→cD (l.flatMap lnD)≤l.length*4
 |[],_=>by simp[cD]
 |x::l,h=>by
  have h1:=uU l fun y hy=>h y (by simp[hy]);have h2:=(h x (by simp)).2.1;have h3:=yL x.ws;rw[List.flatMap_cons,iB,List.length_cons,Nat.succ_mul];have:cD (lnD x)=1+x.ws.length:=by unfold lnD;rw[cD,cD,cD,h3];omega
  omega
theorem vx:∀ s:List Pl.Bl,(∀ b∈s,∀ x∈b.lines,LnB x)→cD (s.flatMap blD)≤s.length*2+tl s*4
 |[],_=>by simp[cD]
 |b::s,h=>by
  have h1:=vx s fun c hc=>h c (by simp[hc]);have h2:=uU b.lines (h b (by simp));have h4:tl (b::s)=b.lines.length+tl s:=by simp[tl]
  rw[List.flatMap_cons,iB,List.length_cons,h4,Nat.succ_mul,Nat.add_mul];have:cD (blD b)=2+cD (b.lines.flatMap lnD):=by unfold blD bT;rw[cD,cD,cD,cD];omega
  omega
theorem SdB.cD {s:List Pl.Bl} (h:SdB 66 40 s):cD [bD s]≤292:=by
 have h1:=vx s fun b hb=>(h.all b hb).2.2;have h2:=h.len;have h3:=h.tot;have:Go.Proofs.YtopjjknojnfhmaaGreatDoor.cD [bD s]=Go.Proofs.YtopjjknojnfhmaaGreatDoor.cD (s.flatMap blD):=by unfold bD;rw[Go.Proofs.YtopjjknojnfhmaaGreatDoor.cD,Go.Proofs.YtopjjknojnfhmaaGreatDoor.cD];omega
 omega
theorem PkD.Ga {t:ByteArray} {n n':Nat} {e e':List Dt} (h:PkD t [.row n e] [.row n' e']):n'=n:=by
 have q:∀ x y,PkD t x y→x=[.row n e]→y=[.row n' e']→n'=n:=by
  intro x y h;cases h with
  |nil=>intro h1;cases h1
  |same a h=>intro h1 h2;injection h1 with h3 _;injection h2 with h4 _;rw[h3]at h4;injection h4 with h5 _;exact h5.symm
  |put a h=>intro h1;injection h1 with h3 _;cases h3
  |row m he h=>intro h1 h2;injection h1 with h3 _;injection h2 with h4 _;injection h3 with h5 _;injection h4 with h6 _;omega
 exact q _ _ h rfl rfl
theorem Co {W:World} {F:List Nat} {t:ByteArray} {s:List Pl.Bl} {ds:List Dt} {v:Value} (h:Rep W false bu F ds [v]) (hp:PkD t [bD s] ds):∃ s',ds=[bD s']∧s'.length=s.length∧Pl.wsh s'≤Pl.wsh s+cD [bD s]*t.size:=by
 obtain⟨s',rfl⟩:=KC ds h.raw.typ;refine⟨s',rfl, ?_, ?_⟩
 ·unfold bD at hp;exact hp.Ga
 ·have:=hp.wt;rw[oR,oR]at this;exact this
set_option maxHeartbeats 40000000
set_option maxRecDepth 8000
noncomputable def sfst:Code→Code
 |.seq a _=>a
 |c=>c
noncomputable def ssnd:Code→Code
 |.seq _ b=>b
 |c=>c
theorem cr (a b:Code):sfst (.seq a b)=a:=rfl
theorem cB (a b:Code):ssnd (.seq a b)=b:=rfl
noncomputable def sk0:Code:=(Tryz.f36.body).getD .skip
noncomputable def sk1:Code:=ssnd sk0
noncomputable def sk2:Code:=ssnd sk1
noncomputable def sk3:Code:=ssnd sk2
noncomputable def sk4:Code:=ssnd sk3
noncomputable def sk5:Code:=ssnd sk4
noncomputable def sk6:Code:=ssnd sk5
noncomputable def sk7:Code:=ssnd sk6
noncomputable def sw:Code:=ssnd (sfst sk6)
theorem Nq:sk0=.seq (sfst sk0) (.seq (sfst sk1) (.seq (sfst sk2) (.seq (sfst sk3) (.seq (sfst sk4) (.seq (sfst sk5) sk6))))):=by kernel_rfl
theorem NA:sk6=.seq (.seq (sfst (sfst sk6)) sw) sk7:=by kernel_rfl
theorem NJ:sk7=.seq (sfst sk7) (ssnd sk7):=by kernel_rfl
def KE (R:Nat) (v:Value) (len p:Nat) (W0:World):Ending→World→Prop:=fun e W'=>(∃ s' MX,e=.returned (.agg #[MX])∧ki W' W0.heap.size s' MX∧Sw s')∧Fr R W0 W'∧∃ q,q≤p+1000000∧Rd W' R v len q
def SpQ (R:Nat) (v:Value) (len p:Nat) (W0:World):Exit→Act→World→Prop:=bodyPost Tryz.prog Tryz.f36 (KE R v len p W0)
structure SP (W0 X:World) (R B0 Q BX lo:Nat) (xv:Value) (bk bn:ByteArray) (lv:Value):Prop where
 fr:Fr R W0 X
 res:al X B0 25 [.slice none 0 0]
 box:al X Q 25 [xv]
 bbx:al X BX 41 [.string bk,.string bn,lv]
 ord:R<W0.heap.size∧W0.heap.size<B0∧B0<lo∧lo≤Q∧Q<BX∧BX<X.heap.size
theorem SP.step {W0 X X':World} {R B0 Q BX lo:Nat} {xv lv:Value} {bk bn:ByteArray} (h:SP W0 X R B0 Q BX lo xv bk bn lv) (hF:Fr R X X'):SP W0 X' R B0 Q BX lo xv bk bn lv:=by
 have ho:=h.ord;exact⟨h.fr.trans hF,h.res.fr hF (by omega),h.box.fr hF (by omega),h.bbx.fr hF (by omega),by have:=hF.bel.size;omega⟩
theorem SP.later {W0 X X':World} {R B0 Q BX lo:Nat} {xv lv:Value} {bk bn:ByteArray} (h:SP W0 X R B0 Q BX lo xv bk bn lv) (hb:Bel X X'):SP W0 X' R B0 Q BX lo xv bk bn lv:=by
 have ho:=h.ord;exact⟨h.fr.trans (Fr.aG hb (by omega)),h.res.later hb,h.box.later hb,h.bbx.later hb,by have:=hb.size;omega⟩
theorem SP.mks {W0 X X':World} {R B0 Q BX lo:Nat} {xv lv:Value} {bk bn:ByteArray} {T:Nat→Prop} (h:SP W0 X R B0 Q BX lo xv bk bn lv) (hm:Marks T X X') (hT:∀ b,T b→lo≤b∧b≠Q∧b≠BX):SP W0 X' R B0 Q BX lo xv bk bn lv:=by
 have ho:=h.ord;exact⟨h.fr.mks hm (fun b e=>by have:=hT b e;omega) ho.1,h.res.mks hm (fun e=>by have:=hT _ e;omega),h.box.mks hm (fun e=>(hT _ e).2.1 rfl),h.bbx.mks hm (fun e=>(hT _ e).2.2 rfl),by have:=hm.size;omega⟩
theorem SP.grow {W0 X X':World} {R B0 Q BX lo:Nat} {xv lv:Value} {bk bn:ByteArray} {row:Option Nat} (h:SP W0 X R B0 Q BX lo xv bk bn lv) (hg:X.grownBy X' row) (hT:∀ b,row=some b→lo≤b∧b≠Q∧b≠BX):SP W0 X' R B0 Q BX lo xv bk bn lv:=by
 have ho:=h.ord;exact⟨h.fr.grown hg (fun b e=>by have:=hT b e;omega) ho.1,h.res.grow hg (fun e=>by have:=hT _ e;omega),h.box.grow hg (fun e=>(hT _ e).2.1 rfl),h.bbx.grow hg (fun e=>(hT _ e).2.2 rfl),by have:=hg.size;omega⟩
theorem SP.QJ {W0 X:World} {R B0 Q BX lo:Nat} {xv lv lv':Value} {bk bn bk' bn':ByteArray} (h:SP W0 X R B0 Q BX lo xv bk bn lv):SP W0 (X.setCells BX 0 [.string bk',.string bn',lv']) R B0 Q BX lo xv bk' bn' lv':=by
 have ho:=h.ord;have m:Marks (fun b=>b=BX) X (X.setCells BX 0 [.string bk',.string bn',lv']):=aM (S:=fun b=>b=BX) rfl _ _ _;have t:X.there BX 0 [.string bk',.string bn',lv'].length:=aR h.bbx.own _ _ (by simp);exact⟨h.fr.mks m (fun b e=>by have:b=BX:=e;omega) ho.1,h.res.mks m (by omega),h.box.mks m (by omega),⟨dB _ _ _ h.bbx.own,World.rangeAt_setCells_same _ _ _ _ t⟩,by have:=m.size;omega⟩
theorem SP.Gm {W0 X X':World} {R B0 Q BX lo:Nat} {xv lv lv':Value} {bk bn bk' bn':ByteArray} (h:SP W0 X R B0 Q BX lo xv bk bn lv) (m:Marks (fun b=>b=BX) X X') (hb:al X' BX 41 [.string bk',.string bn',lv']):SP W0 X' R B0 Q BX lo xv bk' bn' lv':=by
 have ho:=h.ord;exact⟨h.fr.mks m (fun b e=>by have:b=BX:=e;omega) ho.1,h.res.mks m (by omega),h.box.mks m (by omega),hb,by have:=m.size;omega⟩
theorem dL (W0 W:World) (R:Nat) (v:Value) (len p q B0 Q BX lo xp xo xc k n:Nat) (s':List Pl.Bl) (bk bn:ByteArray) (la:Option Addr) (ll lc:Nat) (HP:Hid (SP W0 W R B0 Q BX lo (.slice (some ⟨xp,xo,none⟩) n xc) bk bn (.slice la ll lc))) (HX:Hid (dQ (W.setCells xp (xo+k*3) [.string bk,.string bn,.slice la ll lc]) xp xo lo s'∧Sw s')) (HN:Hid (s'.length=n∧(n≤maxLen∧n≤xc)∧k<n∧xp≠Q∧xp≠BX∧lo≤xp∧W.there xp (xo+k*3) 3)) (HR:Hid (Rd W R v len q∧q≤p+1000000)) (u1 u2 u3 u8 u9 u10 u11 u12 u13 u14 u15 u16 u17 u18 u19 u20 u21 u22 u23 u24 u25 u26 u27 u28 u29 u30 u31 u32 u33 u34 u35 u36 u37 u38 u39 u40 u41 u42 u43 u44 u45 u46 u47 u48 u49 u50 u51 u52 u53 u54 u55 u56 u57 u58 u59 u60 u61 u62 u63 u64 u65 u66 u67 u68 u69 u70 u71 u72 u73 u74 u75 u76 u77 u78 u79 u80 u81 u82 u83 u84 u85 u86 u87 u88 u89 u90 u91 u92 u93 u94 u95 u96 u97 u98 u99 u100 u101 u102 u103 u104 u105 u106 u107 u108 u109 u110 u111 u112 u113 u114 u115 u116 u117 u118 u119 u120 u121 u122 u123 u124 u125 u126 u127 u128 u129 u130 u131 u132 u133 u134 u135 u136 u137 u138 u139 u140 u141 u142 u143 u144 u145 u146 u147 u148 u149 u150 u151 u152 u153 u154 u155 u156 u157 u158 u159 u160 u161 u162 u163 u164 u165 u166 u167 u168 u169 u170 u171 u172 u173 u174 u175 u176 u177 u178 u179 u180 u181 u182 u183 u184 u185 u186 u187 u188 u189 u190 u191 u192 u193 u194 u195 u196 u197 u198:Value):
  Code.wp Tryz.prog sk7 (SpQ R v len p W0) {tmps:=#[.pointer (some ⟨R,0,none⟩),u1,u2,u3,.pointer (some ⟨B0,0,none⟩),.pointer (some ⟨Q,0,none⟩),.int .i64 (k:Int),.pointer (some ⟨BX,0,none⟩),u8,u9,u10,u11,u12,u13,u14,u15,u16,u17,u18,u19,u20,u21,u22,u23,u24,u25,u26,u27,u28,u29,u30,u31,u32,u33,u34,u35,u36,u37,u38,u39,u40,u41,u42,u43,u44,u45,u46,u47,u48,u49,u50,u51,u52,u53,u54,u55,u56,u57,u58,u59,u60,u61,u62,u63,u64,u65,u66,u67,u68,u69,u70,u71,u72,u73,u74,u75,u76,u77,u78,u79,u80,u81,u82,u83,u84,u85,u86,u87,u88,u89,u90,u91,u92,u93,u94,u95,u96,u97,u98,u99,u100,u101,u102,u103,u104,u105,u106,u107,u108,u109,u110,u111,u112,u113,u114,u115,u116,u117,u118,u119,u120,u121,u122,u123,u124,u125,u126,u127,u128,u129,u130,u131,u132,u133,u134,u135,u136,u137,u138,u139,u140,u141,u142,u143,u144,u145,u146,u147,u148,u149,u150,u151,u152,u153,u154,u155,u156,u157,u158,u159,u160,u161,u162,u163,u164,u165,u166,u167,u168,u169,u170,u171,u172,u173,u174,u175,u176,u177,u178,u179,u180,u181,u182,u183,u184,u185,u186,u187,u188,u189,u190,u191,u192,u193,u194,u195,u196,u197,u198],defers:=[]} W:=by
 unfold SpQ;rw[NJ];simp only[sk7,sk6,sk5,sk4,sk3,sk2,sk1,sk0,Tryz.f36,Option.getD_some,cr,cB];have mN:=HP.out.box.at_;have gD:=HP.out.box.own.lt;have x0:=HP.out.box.get 0 _ rfl;have g8:=HP.out.bbx.at_;have eY:=HP.out.bbx.own.lt;have dP:(k:Int)<(n:Int):=by have:=HN.out.2.2.1;omega
 have ec:(0:Int)≤(k:Int):=by omega
 have cp:W.there xp (xo+k*3) (#[.string bk,.string bn,.slice la ll lc]:Array Value).size:=HN.out.2.2.2.2.2.2;go_upto_region 40 with(first|(refine wpList_load_mid rfl 41 _ rfl BX 0 rfl [.string bk,.string bn,.slice la ll lc] _ g8 Tryz.underlying41 rfl (by kernel_rfl) ?_)|(refine wpList_store_mid rfl 41 _ _ rfl xp (xo+k*3) #[.string bk,.string bn,.slice la ll lc] rfl rfl cp (by kernel_rfl) (by simp[Value.oneCell']) ?_))
 obtain⟨W2,si⟩:∃ W2,W2=W.setCells xp (xo+k*3) [.string bk,.string bn,.slice la ll lc]:=⟨_,rfl⟩
 have tL:Marks (fun b=>b=xp) W W2:=by rw[si];exact aM (S:=fun b=>b=xp) rfl _ _ _
 have nP:=HN.out;have hU:=uh (HP.out.mks tL (fun b e=>by have:b=xp:=e;subst this;exact⟨nP.2.2.2.2.2.1,nP.2.2.2.1,nP.2.2.2.2.1⟩));have zD:=HP.out.ord;have gW:=uh (HR.out.1.mks tL (fun b e=>by have:b=xp:=e;have:=nP.2.2.2.2.2.1;omega));have fL:Hid (dQ W2 xp xo lo s'):=by show dQ _ _ _ _ _;rw[si];exact HX.out.1
 first|rw[← si]|(simp only[List.toList_toArray];rw[← si])
 clear si tL mN gD x0 g8 eY dP ec cp;have mN:=hU.out.box.at_;have gD:=hU.out.box.own.lt;have cp:W2.there B0 0 (#[.slice (some ⟨xp,xo,none⟩) n xc]:Array Value).size:=aR hU.out.res.own _ _ (by simp);go_wp2_with (first|(refine wpList_load_mid rfl 25 _ rfl Q 0 rfl [.slice (some ⟨xp,xo,none⟩) n xc] _ mN Tryz.underlying25 rfl (by kernel_rfl) ?_)|(refine wpList_store_mid rfl 25 _ _ rfl B0 0 #[.slice (some ⟨xp,xo,none⟩) n xc] rfl rfl cp (by kernel_rfl) (by simp[Value.oneCell']) ?_))
 obtain⟨we,bM⟩:∃ we,we=W2.setCells B0 0 [.slice (some ⟨xp,xo,none⟩) n xc]:=⟨_,rfl⟩
 have fT:we.rangeAt B0 0 [.slice (some ⟨xp,xo,none⟩) n xc]:=by rw[bM];exact World.rangeAt_setCells_same _ _ _ _ cp
 have hm:Marks (fun b=>b=B0) W2 we:=by rw[bM];exact aM (S:=fun b=>b=B0) rfl _ _ _
 have HE:Hid (dQ we xp xo lo s'∧Fr R W0 we∧Rd we R v len q):=⟨fL.out.bo hm (fun b e=>by have:b=B0:=e;omega),hU.out.fr.mks hm (fun b e=>by have:b=B0:=e;omega) zD.1,gW.out.mks hm (fun b e=>by have:b=B0:=e;omega)⟩
 first|rw[← bM]|(simp only[List.toList_toArray];rw[← bM])
 try simp only[Act.put]
 refine bodyPost_ret (v:=.agg #[.slice (some ⟨xp,xo,none⟩) n xc]) (by simp[results,asAddr,run_loadVar_mid (P:=Tryz.prog) _ _ _ 25 [.slice (some ⟨xp,xo,none⟩) n xc] _ fT Tryz.underlying25 rfl (by kernel_rfl)]) rfl ?_;refine⟨⟨s',_,rfl,Or.inr ⟨xp,xo,xc,by rw[nP.1],by rw[nP.1];exact nP.2.1,HE.out.1.lower (by omega)⟩,HX.out.2⟩,HE.out.2.1,q,HR.out.2,HE.out.2.2⟩
theorem rF {s:List Pl.Bl} {k:Nat} (h:k<s.length):s.getD k Pl.aN∈s:=by
 have e:s.getD k Pl.aN=s[k]:=by simp[h]
 rw[e];exact List.getElem_mem _
theorem Ea {W:World} {p lo:Nat} {a b:ByteArray} (h:al W p 41 [.string a,.string b,.slice none 0 0]) (hl:lo≤p):dQ W p 0 lo [⟨a,b,[]⟩]:=by
 have hx:Rep W false ak ([]++[]) (blD ⟨a,b,[]⟩) [.string a,.string b,.slice none 0 0]:=bG a b (Rep.emp _ _ none rfl .nil);refine⟨41,3,_,[],h.own,by simp,h.at_, ?_,by simp,hl⟩;have e:bf [(⟨a,b,[]⟩:Pl.Bl)].length ak=ak++[]:=rfl;have e2:[(⟨a,b,[]⟩:Pl.Bl)].flatMap blD=blD ⟨a,b,[]⟩:=by simp
 rw[e,e2,List.append_nil];simpa using hx
structure SX (W:World) (lo Q BX xp xo xc:Nat) (s:List Pl.Bl) (k:Nat) (b:Pl.Bl) (la:Option Addr) (lc:Nat):Prop where
 is:s.getD k Pl.aN=b
 rep:∃ F,Rep W false bu F [bD s] [.slice (some ⟨xp,xo,none⟩) s.length xc]∧F.Nodup∧∀ b∈F,lo≤b∧b<Q
 cells:W.rangeAt xp (xo+k*3) [.string b.kind,.string b.name,.slice la b.lines.length lc]
 hole:∃ Gk,Rep W false bF Gk [bT b.lines] [.slice la b.lines.length lc]∧Gk.Nodup∧(∀ b∈Gk,lo≤b∧b≠xp∧b<Q)∧jx W xp xo lo (s.take k) (s.drop (k+1)) (fun b=>b∈Gk∨Q≤b)
 lt:lo≤xp∧xp<Q∧Q<BX∧Q<W.heap.size
theorem SX.bo {W W':World} {T:Nat→Prop} {lo Q BX xp xo xc:Nat} {s:List Pl.Bl} {k:Nat} {b:Pl.Bl} {la:Option Addr} {lc:Nat} (h:SX W lo Q BX xp xo xc s k b la lc) (hm:Marks T W W') (hT:∀ b,T b→b<lo∨Q≤b):SX W' lo Q BX xp xo xc s k b la lc:=by
 obtain⟨hi,⟨F,r,nd,hF⟩,hc,⟨Gk,rk,nk,hG,hh⟩,hl⟩:=h;have hn:∀ b,lo≤b∧b<Q→¬ T b:=fun b hb e=>by have:=hT b e;omega
 exact⟨hi,⟨F,r.bo hm fun b hb=>hn b (hF b hb),nd,hF⟩,cO hc fun j _=>hm.cell (by omega) (hn xp ⟨hl.1,hl.2.1⟩) _,⟨Gk,rk.bo hm fun b hb=>hn b ⟨(hG b hb).1,(hG b hb).2.2⟩,nk,hG,hh.bo hm fun b e=>by rcases hT b e with q|q;exact Or.inr q;exact Or.inl (Or.inr q)⟩,hl.1,hl.2.1,hl.2.2.1,by have:=hm.size;omega⟩
theorem SX.later {W W':World} {lo Q BX xp xo xc:Nat} {s:List Pl.Bl} {k:Nat} {b:Pl.Bl} {la:Option Addr} {lc:Nat} (h:SX W lo Q BX xp xo xc s k b la lc) (hb:Bel W W'):SX W' lo Q BX xp xo xc s k b la lc:=h.bo (Marks.aG (fun _=>False) hb) (fun _ e=>e.elim)
theorem SX.step {W X:World} {R lo Q BX xp xo xc:Nat} {s:List Pl.Bl} {k:Nat} {b:Pl.Bl} {la:Option Addr} {lc:Nat} {v v':Value} {n n' p p':Nat} (h:SX W lo Q BX xp xo xc s k b la lc) (hF:Fr R W X) (h1:Rd W R v n p) (h2:Rd X R v' n' p') (hR:R<lo):SX X lo Q BX xp xo xc s k b la lc:=h.bo (hF.i4 h1 h2) fun b e=>by have:b=R:=e;omega
theorem SX.row {W:World} {lo Q BX xp xo xc:Nat} {s:List Pl.Bl} {k:Nat} {b:Pl.Bl} {la:Option Addr} {lc:Nat} (h:SX W lo Q BX xp xo xc s k b la lc) (hk:k<s.length):dQ W xp xo lo s:=by
 obtain⟨F,r,nd,hF⟩:=h.rep;obtain⟨p,o,c,e,_,hx⟩:=ti r nd (fun b hb=>(hF b hb).1) (by omega);injection e with e _ _
 injection e with e
 injection e with e1 e2 _
 subst e1;subst e2;exact hx
theorem SX.lines {W:World} {lo Q BX xp xo xc:Nat} {s:List Pl.Bl} {k:Nat} {b:Pl.Bl} {la:Option Addr} {lc:Nat} (h:SX W lo Q BX xp xo xc s k b la lc) {N:Nat} (hN:W.heap.size≤N):Dat (fun b=>lo≤b∧b≠xp) N N W bF [bT b.lines] [.slice la b.lines.length lc]:=by
 obtain⟨Gk,rk,nk,hG,hh⟩:=h.hole;exact⟨Gk,rk,fun b hb=>Or.inl ⟨⟨(hG b hb).1,(hG b hb).2.1⟩,by have:=rk.lt b hb;omega⟩⟩
def g6 (j:Nat):Prop:=∀ (W0 W:World) (b:Pl.Bl) (R:Nat) (v:Value) (len p q B0 Q BX lo xp xo xc k n:Nat) (s:List Pl.Bl) (la:Option Addr) (lc:Nat) (_:Hid (SP W0 W R B0 Q BX lo (.slice (some ⟨xp,xo,none⟩) s.length xc) b.kind b.name (.slice la b.lines.length lc))) (_:Hid (SX W lo Q BX xp xo xc s k b la lc)) (_:Hid (k<s.length∧(0<b.lines.length→n<b.lines.length)∧(s.length≤maxLen∧s.length≤xc))) (_:Hid (SdB 66 40 s)) (_:Hid (Rd W R v len q∧q≤p+10∧p≤300000000000)) (K:Act→World→Prop) (_:∀ a w,Code.wp Tryz.prog sk7 (SpQ R v len p W0) a w→K a w) (u1 u2 u3 u9 u10 u11 u12 u13 u14 u15 u16 u17 u18 u19 u20 u21 u22 u23 u24 u25 u26 u27 u28 u29 u30 u31 u32 u33 u34 u35 u36 u37 u39 u40 u41 u42 u43 u44 u45 u46 u47 u48 u49 u50 u51 u52 u53 u54 u55 u56 u57 u58 u59 u60 u61 u62 u63 u64 u65 u66 u67 u68 u69 u70 u71 u72 u73 u74 u75 u76 u77 u78 u79 u80 u81 u82 u83 u84 u85 u86 u87 u88 u89 u90 u91 u92 u93 u94 u95 u96 u97 u98 u99 u100 u101 u102 u103 u104 u105 u106 u107 u108 u109 u110 u111 u112 u113 u114 u115 u116 u117 u118 u119 u120 u121 u122 u123 u124 u125 u126 u127 u128 u129 u130 u131 u132 u133 u134 u135 u136 u137 u138 u139 u140 u141 u142 u143 u144 u145 u146 u147 u148 u149 u150 u151 u152 u153 u154 u155 u156 u157 u158 u159 u160 u161 u162 u163 u164 u165 u166 u167 u168 u169 u170 u171 u172 u173 u174 u175 u176 u177 u178 u179 u180 u181 u182 u183 u184 u185 u186 u187 u188 u189 u190 u191 u192 u193 u194 u195 u196 u197 u198:Value),Code.wp Tryz.prog sw (Exit.then K (SpQ R v len p W0)) {tmps:=#[.pointer (some ⟨R,0,none⟩),u1,u2,u3,.pointer (some ⟨B0,0,none⟩),.pointer (some ⟨Q,0,none⟩),.int .i64 (k:Int),.pointer (some ⟨BX,0,none⟩),.int .i64 (n:Int),u9,u10,u11,u12,u13,u14,u15,u16,u17,u18,u19,u20,u21,u22,u23,u24,u25,u26,u27,u28,u29,u30,u31,u32,u33,u34,u35,u36,u37,.int .i64 (j:Int),u39,u40,u41,u42,u43,u44,u45,u46,u47,u48,u49,u50,u51,u52,u53,u54,u55,u56,u57,u58,u59,u60,u61,u62,u63,u64,u65,u66,u67,u68,u69,u70,u71,u72,u73,u74,u75,u76,u77,u78,u79,u80,u81,u82,u83,u84,u85,u86,u87,u88,u89,u90,u91,u92,u93,u94,u95,u96,u97,u98,u99,u100,u101,u102,u103,u104,u105,u106,u107,u108,u109,u110,u111,u112,u113,u114,u115,u116,u117,u118,u119,u120,u121,u122,u123,u124,u125,u126,u127,u128,u129,u130,u131,u132,u133,u134,u135,u136,u137,u138,u139,u140,u141,u142,u143,u144,u145,u146,u147,u148,u149,u150,u151,u152,u153,u154,u155,u156,u157,u158,u159,u160,u161,u162,u163,u164,u165,u166,u167,u168,u169,u170,u171,u172,u173,u174,u175,u176,u177,u178,u179,u180,u181,u182,u183,u184,u185,u186,u187,u188,u189,u190,u191,u192,u193,u194,u195,u196,u197,u198],defers:=[]} W
theorem Ge (hc:∀ j,j<9→g6 j):sK Tryz.prog 36:=by
 intro R v len p W0 s sv h hp L7 hB;obtain⟨sa,sc,zA⟩:=L7.bm;subst zA;have r8:=uh h;have HS0:=uh L7;have HB:=uh hB;have HC:=uh hc;have Fu:=uh hp;clear h L7 hB hc hp;obtain⟨wa,aZ⟩:∃ wa,wa=(W0.alloc (.cells #[.slice sa s.length sc] 25)).alloc (.cells #[.slice none 0 0] 25):=⟨_,rfl⟩
 obtain⟨SB,P1⟩:∃ SB,SB=W0.heap.size:=⟨_,rfl⟩
 obtain⟨B0,mB⟩:∃ B0,B0=W0.heap.size+1:=⟨_,rfl⟩
 have g8:Bel W0 wa:=by rw[aZ];exact ae (ae zR _) _
 have OZ:wa.heap.size=W0.heap.size+2:=by rw[aZ];simp
 have qY:Hid (al wa SB 25 [.slice sa s.length sc]):=by show al _ _ _ _;rw[aZ,P1];exact(al.new W0 [.slice sa s.length sc] 25 _ rfl).later (ae zR _)
 have cL:Hid (al wa B0 25 [.slice none 0 0]):=by show al _ _ _ _;rw[aZ,mB];exact al.new (W0.alloc (.cells #[.slice sa s.length sc] 25)) [.slice none 0 0] 25 _ (by simp)
 have Mf:=uh (r8.out.later g8);have HSa:=uh (HS0.out.later g8);have HFa:=uh (Fr.aG g8 r8.out.own.lt);have HZ:Hid (wa.heap.size=W0.heap.size+2∧B0=W0.heap.size+1∧SB=W0.heap.size∧R<W0.heap.size):=⟨OZ,mB,P1,r8.out.own.lt⟩
 have MN:=uh (oU s (.slice sa s.length sc) wa HSa.out (by have:=HB.out.len;omega) (fun b hb=>⟨by have:=sQ hb;have:=HB.out.tot;omega,fun x hx=>by have:=((HB.out.all b hb).2.2 x hx).2.1;omega⟩));clear g8 r8 HS0 OZ;go_enter Tryz.func36,Tryz.ntmps36
 show Code.wp Tryz.prog sk0 _ _ _;rw[Nq];simp only[sk5,sk4,sk3,sk2,sk1,sk0,Tryz.f36,Option.getD_some,cr,cB];go_upto_region 1 with fail
 rw[← aZ,← mB,← P1];clear aZ P1 mB;have Ca:=qY.out.at_;have FK:=qY.out.own.lt;go_wp2_with (refine wpList_load_mid rfl 25 _ rfl SB 0 rfl [.slice sa s.length sc] _ Ca Tryz.underlying25 rfl (by kernel_rfl) ?_)
 refine MN.out.mono ?_;rintro e W1 ⟨c,F,rfl,hr,jl,bR,bJ⟩;obtain⟨F2,v2,fk,hc,r2⟩:=jC hr;subst hc;obtain⟨ca,cm,iI⟩:=r2.raw.bm;subst iI;rw[List.append_nil]at fk;subst fk;clear hr;obtain⟨Q,hQ⟩:∃ Q,Q=W1.heap.size:=⟨_,rfl⟩
 obtain⟨W2,si⟩:∃ W2,W2=W1.alloc (.cells #[.slice ca s.length cm] 25):=⟨_,rfl⟩
 have eD:Bel W1 W2:=by rw[si];exact ae zR _
 have IG:Bel wa W2:=⟨by rw[eD.os,bJ.os],by rw[eD.tape,bJ.tape],by rw[eD.output,bJ.output],Nat.le_trans bJ.size eD.size,fun k hk=>by rw[eD.block k (by have:=bJ.size;omega),bJ.block k hk]⟩
 have Qw:Hid (al W2 Q 25 [.slice ca s.length cm]):=by show al _ _ _ _;rw[si,hQ];exact al.new _ _ _ _ rfl
 have lK:=uh (cL.out.later IG);have gW:=uh (Mf.out.later IG);have zF:=uh (HFa.out.trans (Fr.aG IG Mf.out.own.lt));have FO:Hid (Rep W2 false bu F [bD s] [.slice ca s.length cm]∧F.Nodup∧∀ b∈F,W0.heap.size+2≤b∧b<Q):=⟨r2.later eD,jl,fun b hb=>⟨by have:=bR b hb;have:=HZ.out;omega,by rw[hQ];exact r2.lt b hb⟩⟩
 have Nb:Hid (W2.heap.size=Q+1∧W0.heap.size+2≤Q∧B0=W0.heap.size+1∧R<W0.heap.size):=by
  refine⟨by rw[si,hQ];simp,by have:=bJ.size;have:=HZ.out;omega,HZ.out.2.1,HZ.out.2.2.2⟩
 go_upto_region 2 with fail
 rw[← si,← hQ];clear si hQ bJ eD IG Ca FK jl bR r2 MN qY cL Mf HSa HFa HZ;have x0:=Qw.out.get 0 _ rfl;have xl:=Qw.out.own.lt;have nB:=uh (bb R v len p (s.length:Int) W2 gW.out (by have:=Fu.out;omega) (by have:=HB.out.len;omega));go_wp2_with fail
 refine nB.out.mono ?_;rintro e W3 ⟨⟨rm,rfl,iJ⟩,nR,mC⟩;obtain⟨k,rfl,hk⟩:=iJ.nat;have wN:=nR.i4 gW.out mC;have Lh:Hid (Q<W3.heap.size∧W0.heap.size+2≤Q∧B0=W0.heap.size+1∧R<W0.heap.size):=⟨by have:=nR.bel.size;have:=Nb.out;omega,Nb.out.2⟩
 have BK:=uh (Qw.out.fr nR (by have:=Nb.out;omega));have tA:=uh (lK.out.fr nR (by have:=Nb.out;omega));have Rc:=uh (zF.out.trans nR);have v9:=uh mC;have K4:Hid (Rep W3 false bu F [bD s] [.slice ca s.length cm]∧F.Nodup∧∀ b∈F,W0.heap.size+2≤b∧b<Q):=⟨FO.out.1.bo wN (fun b hb e=>by have:b=R:=e;have:=FO.out.2.2 b hb;have:=Nb.out;omega),FO.out.2⟩
 clear x0 xl nB iJ nR mC wN Nb Qw lK zF gW FO;have x0:=BK.out.get 0 _ rfl;have xl:=BK.out.own.lt;by_cases zv:s.length=0
 ·have N0:((s.length:Int)==0)=true:=by simp[zv]
  have yF:Bel W3 (W3.alloc (.cells #[.string {data:=#[]},.string {data:=#[]},.slice none 0 0] 41)):=ae zR _;have HN4:Hid (al (W3.alloc (.cells #[.string {data:=#[]},.string {data:=#[]},.slice none 0 0] 41)) W3.heap.size 41 [.string {data:=#[]},.string {data:=#[]},.slice none 0 0]):=al.new _ _ _ _ rfl;have Fw:=uh (tA.out.later yF);have cp:(W3.alloc (.cells #[.string {data:=#[]},.string {data:=#[]},.slice none 0 0] 41)).there B0 0 (#[.slice (some ⟨W3.heap.size,0,none⟩) 1 1]:Array Value).size:=aR Fw.out.own _ _ (by simp);go_wp2_with (refine wpList_store_mid rfl 25 _ _ rfl B0 0 #[.slice (some ⟨W3.heap.size,0,none⟩) 1 1] rfl rfl cp (by kernel_rfl) (by simp[Value.oneCell']) ?_)
  obtain⟨we,bM⟩:∃ we,we=(W3.alloc (.cells #[.string {data:=#[]},.string {data:=#[]},.slice none 0 0] 41)).setCells B0 0 [.slice (some ⟨W3.heap.size,0,none⟩) 1 1]:=⟨_,rfl⟩
  have fT:we.rangeAt B0 0 [.slice (some ⟨W3.heap.size,0,none⟩) 1 1]:=by rw[bM];exact World.rangeAt_setCells_same _ _ _ _ cp
  have hm:Marks (fun b=>b=B0) (W3.alloc (.cells #[.string {data:=#[]},.string {data:=#[]},.slice none 0 0] 41)) we:=by rw[bM];exact aM (S:=fun b=>b=B0) rfl _ _ _
  have hz:=Lh.out;have HE:Hid (dQ we W3.heap.size 0 W0.heap.size [⟨{data:=#[]},{data:=#[]},[]⟩]∧Fr R W0 we∧Rd we R v len (p+1)):=⟨Ea (HN4.out.mks hm (fun e=>by have:W3.heap.size=B0:=e;omega)) (by omega),(Rc.out.trans (Fr.aG yF (by omega))).mks hm (fun b e=>by have:b=B0:=e;omega) hz.2.2.2,(v9.out.later yF).mks hm (fun b e=>by have:b=B0:=e;omega)⟩
  first|rw[← bM]|(simp only[List.toList_toArray];rw[← bM])
  try simp only[Act.put]
  refine bodyPost_ret (v:=.agg #[.slice (some ⟨W3.heap.size,0,none⟩) 1 1]) (by simp[results,asAddr,run_loadVar_mid (P:=Tryz.prog) _ _ _ 25 [.slice (some ⟨W3.heap.size,0,none⟩) 1 1] _ fT Tryz.underlying25 rfl (by kernel_rfl)]) rfl ?_;exact⟨⟨[⟨{data:=#[]},{data:=#[]},[]⟩],_,rfl,Or.inr ⟨_,_,_,rfl,⟨by decide,by decide⟩,HE.out.1⟩,by decide,by decide⟩,HE.out.2.1,p+1,by omega,HE.out.2.2⟩
 have N0:((s.length:Int)==0)=false:=beq_eq_false_iff_ne.2 (by omega);have Fy:k<s.length:=by have:=hk (by omega);omega
 obtain⟨xp,xo,xc,la,lc,Gk,hv,Qe,gV,rk,nk,hG,hh,hpQ⟩:=Gf K4.out.1 K4.out.2.1 K4.out.2.2 Fy;obtain⟨b,KX⟩:∃ b,s.getD k Pl.aN=b:=⟨_,rfl⟩
 rw[KX]at gV rk;injection hv with fy _ Pz
 subst fy;subst Pz;have dP:(k:Int)<(s.length:Int):=by omega
 have ec:(0:Int)≤(k:Int):=by omega
 have RL:xp<W3.heap.size:=hh.lt;obtain⟨BX,qy⟩:∃ BX,BX=W3.heap.size:=⟨_,rfl⟩
 obtain⟨W4,qZ⟩:∃ W4,W4=W3.alloc (.cells #[.string b.kind,.string b.name,.slice la b.lines.length lc] 41):=⟨_,rfl⟩
 have yF:Bel W3 W4:=by rw[qZ];exact ae zR _
 have hz:=Lh.out;have PK:W4.heap.size=W3.heap.size+1:=by rw[qZ];simp
 have kr:Hid (SX W4 (W0.heap.size+2) Q BX xp xo cm s k b la lc):=by
  have hS:SX W3 (W0.heap.size+2) Q BX xp xo cm s k b la lc:=⟨KX,⟨F,K4.out⟩,gV,⟨Gk,rk,nk,hG,hh⟩,hh.lo,hpQ,by omega,by omega⟩
  exact hS.later yF
 have B4:Hid (SP W0 W4 R B0 Q BX (W0.heap.size+2) (.slice (some ⟨xp,xo,none⟩) s.length cm) b.kind b.name (.slice la b.lines.length lc)):=by
  refine⟨Rc.out.trans (Fr.aG yF (by omega)),tA.out.later yF,BK.out.later yF, ?_,by have:=PK;omega⟩;rw[qZ,qy];exact al.new _ _ _ _ rfl
 have nz:=uh (v9.out.later yF);clear hz;have P0:Hid (k<s.length∧(s.length≤maxLen∧s.length≤cm)):=⟨Fy,Qe⟩
 go_upto_region 6 with(refine wpList_load_mid rfl 41 _ rfl xp (xo+k*3) rfl [.string b.kind,.string b.name,.slice la b.lines.length lc] _ gV Tryz.underlying41 rfl (by kernel_rfl) ?_)
 rw[← qZ,← qy];clear KX PK qZ qy yF gV rk nk hG hh hpQ dP ec RL x0 xl tA BK Rc v9 K4 Qe;obtain⟨lo,bR⟩:∃ lo,lo=W0.heap.size+2:=⟨_,rfl⟩
 rw[← bR]at kr B4;have RU:R<lo:=by have:=Lh.out;omega
 have HZ4:Hid (R<lo):=RU;clear bR Lh N0 hk zv;have b2:=B4.out.bbx.get 2 _ rfl;have bl:=B4.out.bbx.own.lt;have je:Hid (b.lines.length≤40):=by
  have hm:b∈s:=by rw[← kr.out.is];exact rF P0.out.1
  have:=sQ hm;have:=HB.out.tot;show _≤_;omega
 have nB:=uh (bb R v len (p+1) (b.lines.length:Int) W4 nz.out (by have:=Fu.out;omega) (by have:=je.out;omega));go_wp2_with fail
 refine nB.out.mono ?_;rintro e W5 ⟨⟨rm,rfl,iJ⟩,FG,H7⟩;obtain⟨n,rfl,hn⟩:=iJ.nat;have B9:=uh (kr.out.step FG nz.out H7 HZ4.out);have HP5:=uh (B4.out.step FG);have FV:=uh H7;have HN5:Hid (k<s.length∧(0<b.lines.length→n<b.lines.length)∧(s.length≤maxLen∧s.length≤cm)):=⟨P0.out.1,fun h0=>by have:=hn (by omega);omega,P0.out.2⟩
 clear P0 hn iJ FG H7 nB b2 bl kr B4 nz;have nB:=uh (bb R v len (p+2) 9 W5 FV.out (by have:=Fu.out;omega) (by omega));go_wp2_with fail
 rw[NA];simp only[sk6,sk5,sk4,sk3,sk2,sk1,sk0,Tryz.f36,Option.getD_some,cr,cB];go_wp2_with fail
 refine nB.out.mono ?_;rintro e W6 ⟨⟨rm,rfl,iJ⟩,SD,Sn⟩;obtain⟨j,rfl,hj⟩:=iJ.nat;have hj9:j<9:=by have:=hj (by omega);omega
 have wP:=uh (B9.out.step SD FV.out Sn HZ4.out);have HP6:=uh (HP5.out.step SD);have Bx:Hid (Rd W6 R v len (p+3)∧p+3≤p+10∧p≤300000000000):=⟨Sn,by omega,Fu.out⟩
 clear iJ SD Sn nB B9 HP5 FV hj;go_wp2_with fail
 exact HC.out j hj9 W0 W6 b R v len p (p+3) B0 Q BX lo xp xo cm k n s la lc HP6 wP HN5 HB Bx _ (by assumption) _ _ _ _ _ _ _ _ _ _ _ _ _ _ _ _ _ _ _ _ _ _ _ _ _ _ _ _ _ _ _ _ _ _ _ _ _ _ _ _ _ _ _ _ _ _ _ _ _ _ _ _ _ _ _ _ _ _ _ _ _ _ _ _ _ _ _ _ _ _ _ _ _ _ _ _ _ _ _ _ _ _ _ _ _ _ _ _ _ _ _ _ _ _ _ _ _ _ _ _ _ _ _ _ _ _ _ _ _ _ _ _ _ _ _ _ _ _ _ _ _ _ _ _ _ _ _ _ _ _ _ _ _ _ _ _ _ _ _ _ _ _ _ _ _ _ _ _ _ _ _ _ _ _ _ _ _ _ _ _ _ _ _ _ _ _ _ _ _ _ _ _ _ _ _ _ _ _ _ _ _ _ _ _ _ _ _ _ _ _ _ _
theorem GB (b:Pl.Bl):Pl.wsh [b]=Pl.wbl b+1:=by simp[Pl.wsh]
theorem SdB.wsh {s:List Pl.Bl} (h:SdB 66 40 s):Pl.wsh s≤483946:=by
 have hw:=sE s h.all;have h1:s.length*41≤66*41:=Nat.mul_le_mul_right _ h.len;have h2:tl s*12031≤40*12031:=Nat.mul_le_mul_right _ h.tot;omega
theorem SdB.one {s:List Pl.Bl} (h:SdB 66 40 s) {b:Pl.Bl} (hb:b∈s):Pl.wbl b≤84257∧b.kind.size≤20∧b.name.size≤20:=by
 have h0:=h.all b hb;have hw:=sE [b] (fun c hc=>by rw[List.mem_singleton]at hc;subst hc;exact h0);have h2:tl [b]=b.lines.length:=by simp[tl]
 have h3:=h.per b hb;rw[GB,h2]at hw;simp only[List.length_singleton]at hw;have h4:b.lines.length*12031≤7*12031:=Nat.mul_le_mul_right _ h3;exact⟨by omega,h0.1,h0.2.1⟩
theorem SdB.set {s:List Pl.Bl} (h:SdB 66 40 s) (k:Nat) (x:Pl.Bl) (hx:Pl.wbl x≤300000):Sw (s.set k x):=by
 have h1:=oi s k x;have h2:=h.wsh;have h3:=h.len;exact⟨by rw[List.length_set];omega,by omega⟩
theorem GY {l:List Pl.Ln} {x:Pl.Ln} (h:x∈l):Pl.wln x+1≤(l.map fun x=>Pl.wln x+1).sum:=by
 induction l with
 |nil=>cases h
 |cons y l ih=>
  rw[List.map_cons,List.sum_cons];rcases List.mem_cons.1 h with rfl|q
  ·omega
  ·have:=ih q;omega
theorem lx {W:World} {F:List Nat} {n:Nat} {es:List Dt} {p o c:Nat} (h:Rep W false bu F [.row n es] [.slice (some ⟨p,o,none⟩) n c]) (hn:0<n):∃ G,F=p::G:=by
 rcases h.slice with⟨_,h0,_⟩|⟨p',o',c',u,m,G,hv,hF,_⟩
 ·omega
 ·injection hv with hv _ _
  injection hv with hv
  injection hv with hv _ _
  exact⟨G,by rw[hF,hv]⟩
theorem SP.IP {W0 X X':World} {R B0 Q BX lo:Nat} {xv xv' lv:Value} {bk bn:ByteArray} (h:SP W0 X R B0 Q BX lo xv bk bn lv) (m:Marks (fun b=>b=Q) X X') (hb:al X' Q 25 [xv']):SP W0 X' R B0 Q BX lo xv' bk bn lv:=by
 have ho:=h.ord;exact⟨h.fr.mks m (fun b e=>by have:b=Q:=e;omega) ho.1,h.res.mks m (by omega),hb,h.bbx.mks m (by omega),by have:=m.size;omega⟩
theorem uR {W:World} {F:List Nat} {l:List Pl.Bl} {p o c lo:Nat} (h:Rep W false bu F [bD l] [.slice (some ⟨p,o,none⟩) l.length c]) (nd:∀ p G,F=p::G→p ∉ G) (bR:∀ b∈F,lo≤b) (hl:0<l.length):dQ W p o lo l∧l.length≤maxLen∧l.length≤c:=by
 rcases h.slice with⟨_,h0,_⟩|⟨p',o',c',u,m,G,hv,hF,hn,ho,hm,_,vs,hr,hR⟩
 ·omega
 subst hF;injection hv with hv _ h3
 injection hv with hv
 injection hv with h1 h2 _
 subst h1;subst h2;subst h3;have hp:=nd _ _ rfl;exact⟨⟨u,m,vs,G,ho,hm,hr,hR,fun b hb=>⟨bR b (by simp[hb]),fun e=>hp (e ▸ hb)⟩,bR p (by simp)⟩,hn.1,hn.2.1⟩
theorem ek {W:World} {l:List Pl.Ln} {F:List Nat} {la:Option Addr} {lc:Nat} (h:Rep W false bF F [bT l] [.slice la l.length lc]) {k:Nat} (hk:k<l.length):∃ p o u m aw cw F',la=some ⟨p,o,none⟩∧p∈F∧aV W p u m∧o+l.length*2≤m∧W.rangeAt p (o+k*2) [.string (l.getD k Pl.aK).key,.slice aw (l.getD k Pl.aK).ws.length cw]∧Rep W false aA F' (lnD (l.getD k Pl.aK)) [.string (l.getD k Pl.aK).key,.slice aw (l.getD k Pl.aK).ws.length cw]∧(∃ G,F=p::G∧∀ b∈F',b∈G)∧(l.length≤maxLen∧l.length≤lc):=by
 rcases h.slice with⟨_,e0,_⟩|⟨p,o,c,u,m,G,hv,hF,hn,ho,hm,_,vs,hr,hR⟩
 ·omega
 ·injection hv with hv _ hc
  subst hv;subst hc;obtain⟨ve,G',hE,hg,hb⟩:=hR.elF hk hr;have e:el aA.length k (l.flatMap lnD)=lnD (l.getD k Pl.aK):=j8 Pl.aK lnD 2 oq l k hk;rw[e]at hE;obtain⟨F1,v1,oF,fy,r1⟩:=fR hE;obtain⟨aw,cw,ew⟩:=r1.raw.bm;subst ew;subst fy;exact⟨p,o,u,m,aw,cw,G',rfl,by rw[hF];simp,ho,hm,hg,hE,⟨G,hF,hb⟩,hn.1,hn.2.1⟩
theorem Nn {W:World} {p o:Nat} {u:TypeId} {m:Nat} (ho:aV W p u m) (hO:o<m) {v:Value} (hv:W.cell? ⟨p,o,none⟩=some v) (q i:Nat):(W.setCell ⟨p,o,none⟩ v).cell? ⟨q,i,none⟩=W.cell? ⟨q,i,none⟩:=by
 by_cases e:q=p∧i=o
 ·obtain⟨rfl,rfl⟩:=e;rw[uw ho _ hO,hv]
 ·exact ni _ _ _ _ _ _ (by by_cases h:q=p;right;intro h2;exact e ⟨h,h2⟩;left;exact h)
theorem CJ {p:Nat} {u:TypeId} {m:Nat}:∀ (cs:List Value) (W:World) (o:Nat),aV W p u m→o+cs.length≤m→W.rangeAt p o cs→∀ q i,(W.setCells p o cs).cell? ⟨q,i,none⟩=W.cell? ⟨q,i,none⟩
 |[],W,o,_,_,_,q,i=>rfl
 |v::cs,W,o,ho,hm,hr,q,i=>by
  obtain⟨h1,h2⟩:=GM hr;simp only[List.length_cons]at hm;have hid:=Nn ho (by omega:o<m) h1;have ih:=CJ cs (W.setCell ⟨p,o,none⟩ v) (o+1) (dB [v] _ _ ho) (by omega) (cO h2 fun j _=>hid _ _) q i;show ((W.setCell ⟨p,o,none⟩ v).setCells p (o+1) cs).cell? ⟨q,i,none⟩=_;rw[ih,hid]
theorem dQ.same {W:World} {p o lo:Nat} {l:List Pl.Bl} (h:dQ W p o lo l) {k:Nat} (hk:k<l.length) {x y z:Value} (hc:W.rangeAt p (o+k*3) [x,y,z]):dQ (W.setCells p (o+k*3) [x,y,z]) p o lo l:=by
 obtain⟨u,m,vs,G,h1,h2,h3,h4,h5,h6⟩:=h;have hm:Marks (fun b=>b=p) W (W.setCells p (o+k*3) [x,y,z]):=aM (S:=fun b=>b=p) rfl _ _ _;exact⟨u,m,vs,G,dB _ _ _ h1,h2,cO h3 fun j _=>CJ _ _ _ h1 (by simp only[List.length_cons,List.length_nil];omega) hc _ _,h4.bo hm fun b hb e=>(h5 b hb).2 e,h5,h6⟩
theorem SX.hn {W:World} {lo Q BX xp xo xc:Nat} {s:List Pl.Bl} {k:Nat} {b:Pl.Bl} {la:Option Addr} {lc:Nat} (h:SX W lo Q BX xp xo xc s k b la lc) (hk:k<s.length) (hx:s.length≤maxLen∧s.length≤xc) {s':List Pl.Bl} (hl:s'.length=s.length):s'.length=s.length∧(s.length≤maxLen∧s.length≤xc)∧k<s.length∧xp≠Q∧xp≠BX∧lo≤xp∧W.there xp (xo+k*3) 3:=by
 have:=h.lt;exact⟨hl,hx,hk,by omega,by omega,h.lt.1,(h.row hk).there hk⟩
theorem SX.none {W:World} {lo Q BX xp xo xc:Nat} {s:List Pl.Bl} {k:Nat} {b:Pl.Bl} {la:Option Addr} {lc:Nat} (h:SX W lo Q BX xp xo xc s k b la lc) (hk:k<s.length) (hB:SdB 66 40 s):dQ (W.setCells xp (xo+k*3) [.string b.kind,.string b.name,.slice la b.lines.length lc]) xp xo lo s∧Sw s:=
 ⟨(h.row hk).same hk h.cells,hB.sw⟩
theorem pr {W:World} {ws:List ByteArray} {key:ByteArray} {F':List Nat} {aw:Option Addr} {cw:Nat} (h:Rep W false aA F' [.s key,.row ws.length (txD ws)] [.string key,.slice aw ws.length cw]) (h0:0<ws.length):∃ p o u m x,aw=some ⟨p,o,none⟩∧p∈F'∧aV W p u m∧o<m∧W.cell? ⟨p,o,none⟩=some (.string x):=by
 obtain⟨F1,v1,oF,fy,r1⟩:=fR h;injection fy with _ fy
 injection fy with fy _
 subst fy;rcases r1.slice with⟨_,e0,_⟩|⟨p,o,c,u,m,G,hv,hF,hn,ho,hm,_,vs,hr,hR⟩
 ·omega
 ·injection hv with hv _ hc
  subst hv;subst hc;obtain⟨ve,G',hE,hg,hb⟩:=hR.elF h0 hr;have e:el 1 0 (txD ws)=[.s (ws.getD 0 ⟨#[]⟩)]:=gO (⟨#[]⟩:ByteArray) Dt.s ws 0 h0;have LG:Rep W false [.s] G' [.s (ws.getD 0 ⟨#[]⟩)] ve:=by rw[← e];exact hE
  obtain⟨x,hx,_⟩:=LG.c_s;subst hx;have hc:=aE hg 0 _ rfl;have tL:o+ws.length*1≤m:=hm;exact⟨p,o,u,m,_,rfl,by rw[oF,hF];simp,ho,by omega,by simpa using hc⟩
theorem DR {W0 X:World} {R B0 Q BX lo xp xo xc k:Nat} {s:List Pl.Bl} {b:Pl.Bl} {la:Option Addr} {lc:Nat} (HP:SP W0 X R B0 Q BX lo (.slice (some ⟨xp,xo,none⟩) s.length xc) b.kind b.name (.slice la b.lines.length lc)) (HX:SX X lo Q BX xp xo xc s k b la lc) (hk:k<s.length) (Qe:s.length≤maxLen∧s.length≤xc) (hB:SdB 66 40 s) {B O:Nat} {u:TypeId} {m:Nat} (hb:lo≤B∧B<Q∧B≠xp) (ho:aV X B u m) (hO:O<m) {x t:ByteArray} (hx:X.cell? ⟨B,O,none⟩=some (.string x)) (ht:t.size≤250) (W3:World) (hW:W3=X.setCell ⟨B,O,none⟩ (.string t)):
  ∃ s',SP W0 W3 R B0 Q BX lo (.slice (some ⟨xp,xo,none⟩) s.length xc) b.kind b.name (.slice la b.lines.length lc)∧(dQ (W3.setCells xp (xo+k*3) [.string b.kind,.string b.name,.slice la b.lines.length lc]) xp xo lo s'∧Sw s')∧(s'.length=s.length∧(s.length≤maxLen∧s.length≤xc)∧k<s.length∧xp≠Q∧xp≠BX∧lo≤xp∧W3.there xp (xo+k*3) 3):=by
 have hm:Marks (fun b=>b=B) X W3:=by rw[hW];exact Marks.sc (S:=fun b=>b=B) X rfl _ _
 obtain⟨F,r,nd,hF⟩:=HX.rep;have hl:=HX.lt;obtain⟨ds',r',pk⟩:=r.QE ho hO hx (t:=t) _ (PkV.refl _ _);rw[← hW]at r';obtain⟨s',e,gJ,hw⟩:=Co r' pk;subst e;have hls':=gJ.symm;have h1:=hB.wsh;have h2:=hB.cD;have h3:cD [bD s]*t.size≤292*250:=Nat.mul_le_mul h2 ht;rw[← gJ]at r';obtain⟨p',o',c',e,_,ep⟩:=ti r' nd (fun b hb=>(hF b hb).1) (by omega);injection e with e _ _
 injection e with e
 injection e with e1 e2 _
 subst e1;subst e2;have hc:W3.rangeAt xp (xo+k*3) [.string b.kind,.string b.name,.slice la b.lines.length lc]:=cO HX.cells fun j _=>hm.cell (by omega) (fun e=>hb.2.2 e.symm) _;exact⟨s',HP.mks hm (fun c e=>by have:c=B:=e;have:=HP.ord;omega),⟨ep.same (by omega) hc,by have:=hB.len;omega,by omega⟩,gJ,Qe,hk,by omega,by omega,hl.1,ep.there (by omega)⟩
theorem SX.mem {W:World} {lo Q BX xp xo xc:Nat} {s:List Pl.Bl} {k:Nat} {b:Pl.Bl} {la:Option Addr} {lc:Nat} (h:SX W lo Q BX xp xo xc s k b la lc) (hk:k<s.length):b∈s:=by
 rw[← h.is];exact rF hk
theorem D7 {W:World} {p:Nat} {t:ByteArray} (h:al W p 9 [.string t]):Rep W false [.row 9 [.s]] [p] [.row 1 (txD [t])] [.slice (some ⟨p,0,none⟩) 1 1]:=
 Rep.row 9 [.s] p 0 1 1 9 1 [.string t] [.s t] [] h.own (by simp) (by simp) ⟨by decide,by omega⟩ h.at_ (.s t .nil) .nil
theorem z7 (X:World) (B:Nat) (c:UInt8) (h:X.cell? ⟨B,0,none⟩=some (.int .u8 (c.toNat:Int))):(convert 22 9 (.slice (some ⟨B,0,none⟩) 1 1)).run Tryz.prog X=.ok (.string ⟨#[c]⟩) X:=by
 refine run_convert_bytes_back (P:=Tryz.prog) X 22 9 5 ⟨B,0,none⟩ 1 [c] Tryz.dv (by kernel_rfl) (by kernel_rfl) fun j hj=> ?_;have:j=0:=by simp at hj;omega
 subst this;exact h
theorem letter (i:Nat) (h:i<100):∃ c:UInt8,(c.toNat:Int)=97+(i:Int):=⟨UInt8.ofNat (97+i),by rw[UInt8.toNat_ofNat'];omega⟩
theorem oO (z:Int) (h0:0≤z) (h1:z<256):IntKind.u8.wrap z=z:=by simp[IntKind.wrap,IntKind.bits,IntKind.signed];omega
theorem Gg:g6 7:=by
 intro W0 W b R v len p q B0 Q BX lo xp xo xc k n s la lc HP HX HN HB HR K hK u1 u2 u3 u9 u10 u11 u12 u13 u14 u15 u16 u17 u18 u19 u20 u21 u22 u23 u24 u25 u26 u27 u28 u29 u30 u31 u32 u33 u34 u35 u36 u37 u39 u40 u41 u42 u43 u44 u45 u46 u47 u48 u49 u50 u51 u52 u53 u54 u55 u56 u57 u58 u59 u60 u61 u62 u63 u64 u65 u66 u67 u68 u69 u70 u71 u72 u73 u74 u75 u76 u77 u78 u79 u80 u81 u82 u83 u84 u85 u86 u87 u88 u89 u90 u91 u92 u93 u94 u95 u96 u97 u98 u99 u100 u101 u102 u103 u104 u105 u106 u107 u108 u109 u110 u111 u112 u113 u114 u115 u116 u117 u118 u119 u120 u121 u122 u123 u124 u125 u126 u127 u128 u129 u130 u131 u132 u133 u134 u135 u136 u137 u138 u139 u140 u141 u142 u143 u144 u145 u146 u147 u148 u149 u150 u151 u152 u153 u154 u155 u156 u157 u158 u159 u160 u161 u162 u163 u164 u165 u166 u167 u168 u169 u170 u171 u172 u173 u174 u175 u176 u177 u178 u179 u180 u181 u182 u183 u184 u185 u186 u187 u188 u189 u190 u191 u192 u193 u194 u195 u196 u197 u198;obtain⟨W1,ia⟩:∃ W1,W1=W.setCells BX 0 [.string {data:=#[98,101,114,116,104]},.string b.name,.slice none 0 0]:=⟨_,rfl⟩
 have wU:=HP.out.ord;have bd:=HX.out.lt;have HO:Hid (R<lo∧lo≤Q∧Q<BX∧xp<Q):=⟨by omega,by omega,by omega,by omega⟩
 have ns:Marks (fun c=>c=BX) W W1:=by rw[ia];exact aM (S:=fun c=>c=BX) rfl _ _ _
 have kY:Hid (SP W0 W1 R B0 Q BX lo (.slice (some ⟨xp,xo,none⟩) s.length xc) {data:=#[98,101,114,116,104]} b.name (.slice none 0 0)):=by show SP _ _ _ _ _ _ _ _ _ _ _;rw[ia];exact HP.out.QJ
 have mO:=uh (HX.out.bo ns (fun c e=>by have:c=BX:=e;omega));have iL:=uh (HR.out.1.mks ns (fun c e=>by have:c=BX:=e;omega));have cp:W.there BX 0 (#[.string {data:=#[98,101,114,116,104]},.string b.name,.slice none 0 0]:Array Value).size:=aR HP.out.bbx.own _ _ (by simp);have b1:=HP.out.bbx.get 1 _ rfl;have bl:=HP.out.bbx.own.lt;have nB:=uh (bb R v len q 2 W1 iL.out (by have:=HR.out.2;omega) (by omega));clear wU bd ns;simp only[sw,sk6,sk5,sk4,sk3,sk2,sk1,sk0,Tryz.f36,Option.getD_some,cr,cB];go_upto_region 34 with(refine wpList_store_mid rfl 41 _ _ rfl BX 0 #[.string {data:=#[98,101,114,116,104]},.string b.name,.slice none 0 0] rfl rfl cp (by kernel_rfl) (by simp[Value.oneCell']) ?_)
 first|rw[← ia]|(simp only[List.toList_toArray];rw[← ia])
 clear cp b1 bl ia;go_wp2_with fail
 refine nB.out.mono ?_;rintro e W2 ⟨⟨rm,rfl,iJ⟩,fk,eR⟩;obtain⟨r,rfl,hr⟩:=iJ.nat;have mF:r<2:=by have:=hr (by omega);omega
 have hU:=uh (kY.out.step fk);have fL:=uh (mO.out.step fk iL.out eR HO.out.1);have gW:=uh eR;obtain⟨m,hm⟩:∃ m,m=10+r:=⟨_,rfl⟩
 have hmw:IntKind.i64.wrap (10+(r:Int))=(m:Int):=by rw[wrap_small _ (by omega) (by omega)];omega
 have HM:Hid (m≤11):=by show m≤11;omega
 clear iJ hr fk eR nB kY mO iL hm mF;go_upto_region 35 with fail
 clear hmw;go_wp2;go_loopw [11] (fun vi wr=>∃ (i:Nat) (ls:List Pl.Ln) (F:List Nat) (la':Option Addr) (lc':Nat),i≤m∧vi=.int .i64 (i:Int)∧SP W0 wr R B0 Q BX lo (.slice (some ⟨xp,xo,none⟩) s.length xc) {data:=#[98,101,114,116,104]} b.name (.slice la' i lc')∧SX wr lo Q BX xp xo xc s k b la lc∧(Rep wr false bF F [bT ls] [.slice la' i lc']∧(∀ p G,F=p::G→p ∉ G)∧∀ c∈F,BX<c)∧(ls.length=i∧(ls.map fun x=>Pl.wln x+1).sum≤i*20)∧Rd wr R v len (q+1)) (fun vi _=>m - (intOf vi).toNat)
 case atStart=>
  exact⟨0,[],[],none,0,by omega,rfl,hU.out,fL.out,⟨Rep.emp _ _ none rfl .nil,by simp,by simp⟩,⟨rfl,by simp⟩,gW.out⟩
 case round=>
  obtain⟨i,ls,F,la',lc',him,rfl,hp,hx,hd,hl,hr⟩:=hrel;have r7:=uh hp;have Qo:=uh hx;have HD:=uh hd;have HL:=uh hl;have KZ:=uh hr;have fK:=HM.out;clear hp hx hd hl hr hU fL gW;by_cases hi:i<m
  rotate_left
  ·have Po:¬ ((i:Int)<(m:Int)):=by omega
   go_wp2;have him2:i=m:=by omega
   have wU:=HO.out;have hz:Pl.wbl ⟨{data:=#[98,101,114,116,104]},b.name,ls⟩≤300000:=by
    have h1:=(HB.out.one (HX.out.mem HN.out.1)).2.2;have h2:=HL.out.2;show ({data:=#[98,101,114,116,104]}:ByteArray).size+b.name.size+(ls.map fun x=>Pl.wln x+1).sum≤300000;have h3:({data:=#[98,101,114,116,104]}:ByteArray).size=5:=rfl;have h4:i*20≤11*20:=Nat.mul_le_mul_right _ (by omega);omega
   have ep:=Qo.out.row HN.out.1;have dr:=Qo.out.lt;have Fc:=ep.put HN.out.1 ⟨{data:=#[98,101,114,116,104]},b.name,ls⟩ (N:=wr.heap.size) (lv:=.slice la' i lc') ⟨F,HD.out.1,fun c hc=>Or.inl ⟨⟨by have:=HD.out.2.2 c hc;omega,by have:=HD.out.2.2 c hc;omega⟩,HD.out.1.lt c hc⟩⟩ (by omega);have jH:=r7;have jK:Hid (dQ (wr.setCells xp (xo+k*3) [.string {data:=#[98,101,114,116,104]},.string b.name,.slice la' i lc']) xp xo lo (s.set k ⟨{data:=#[98,101,114,116,104]},b.name,ls⟩)∧Sw (s.set k ⟨{data:=#[98,101,114,116,104]},b.name,ls⟩)):=⟨Fc,HB.out.set k _ hz⟩
   have jF:Hid ((s.set k ⟨{data:=#[98,101,114,116,104]},b.name,ls⟩).length=s.length∧(s.length≤maxLen∧s.length≤xc)∧k<s.length∧xp≠Q∧xp≠BX∧lo≤xp∧wr.there xp (xo+k*3) 3):=⟨by rw[List.length_set],HN.out.2.2,HN.out.1,by omega,by omega,dr.1,ep.there HN.out.1⟩
   have iG:Hid (Rd wr R v len (q+1)∧q+1≤p+1000000):=⟨KZ.out,by have:=HR.out.2;omega⟩
   exact dL W0 _ R v len p _ B0 Q BX lo xp xo xc k s.length _ _ _ _ _ _ jH jK jF iG _ _ _ _ _ _ _ _ _ _ _ _ _ _ _ _ _ _ _ _ _ _ _ _ _ _ _ _ _ _ _ _ _ _ _ _ _ _ _ _ _ _ _ _ _ _ _ _ _ _ _ _ _ _ _ _ _ _ _ _ _ _ _ _ _ _ _ _ _ _ _ _ _ _ _ _ _ _ _ _ _ _ _ _ _ _ _ _ _ _ _ _ _ _ _ _ _ _ _ _ _ _ _ _ _ _ _ _ _ _ _ _ _ _ _ _ _ _ _ _ _ _ _ _ _ _ _ _ _ _ _ _ _ _ _ _ _ _ _ _ _ _ _ _ _ _ _ _ _ _ _ _ _ _ _ _ _ _ _ _ _ _ _ _ _ _ _ _ _ _ _ _ _ _ _ _ _ _ _ _ _ _ _ _ _ _ _ _ _ _ _ _ _ _
  have E2:((i:Int)<(m:Int)):=by omega
  obtain⟨c,hc⟩:=letter i (by omega);have e3:IntKind.i64.wrap (97+(i:Int))=97+(i:Int):=wrap_small _ (by omega) (by omega);have e4:IntKind.u8.wrap (97+(i:Int))=97+(i:Int):=oO _ (by omega) (by omega);have Ie:=z7 (wr.alloc (.cells #[.int .u8 (97+(i:Int))] 5)) wr.heap.size c (by rw[hc];simp);have b2:=r7.out.bbx.get 2 _ rfl;have bl:=r7.out.bbx.own.lt;obtain⟨W2,si⟩:∃ W2,W2=(wr.alloc (.cells #[.int .u8 (97+(i:Int))] 5)).alloc (.cells #[.string ({data:=#[109]}++{data:=#[c]})] 9):=⟨_,rfl⟩
  have gH:W2.heap.size=wr.heap.size+1+1:=by rw[si];simp
  have eD:Bel wr W2:=by rw[si];exact ae (ae zR _) _
  have tM:al W2 (wr.heap.size+1) 9 [.string ({data:=#[109]}++{data:=#[c]})]:=by rw[si];exact al.new (wr.alloc (.cells #[.int .u8 (97+(i:Int))] 5)) _ _ _ (by simp)
  obtain⟨W3,fA⟩:∃ W3,W3=W2.alloc (.cells #[.string {data:=#[109,97,114,107]},.slice (some ⟨wr.heap.size+1,0,none⟩) 1 1] 46):=⟨_,rfl⟩
  have Pg:Bel W2 W3:=by rw[fA];exact ae zR _
  have eP:Bel wr W3:=by rw[fA];exact ae eD _
  have kX:=pS W2 #[.string {data:=#[109,97,114,107]},.slice (some ⟨wr.heap.size+1,0,none⟩) 1 1] 46;rw[gH,← fA]at kX;have gh:Rep W3 false aA ([wr.heap.size+1]++[]) (lnD ⟨{data:=#[109,97,114,107]},[({data:=#[109]}++{data:=#[c]})]⟩) [.string {data:=#[109,97,114,107]},.slice (some ⟨wr.heap.size+1,0,none⟩) 1 1]:=eF {data:=#[109,97,114,107]} (D7 (tM.later Pg));obtain⟨v',X,F4,row,dM,rep,nd4,jL,fw,ep,fz⟩:=lC (P:=Tryz.prog) 39 39 46 2 40 _ Tryz.cI Tryz.jQ rfl (by decide) aA rfl W3 (n:=i) (by have:=HD.out.1.later eP;unfold bT at this;rw[HL.out.1]at this;exact this) HD.out.2.1 (by omega) (F':=[wr.heap.size+1]++[]) (d:=lnD ⟨{data:=#[109,97,114,107]},[({data:=#[109]}++{data:=#[c]})]⟩) (c':=[.string {data:=#[109,97,114,107]},.slice (some ⟨wr.heap.size+1,0,none⟩) 1 1]) ⟨wr.heap.size+1+1,0,none⟩ gh (fun p G e hb=>by have h1:=HD.out.1.lt p (by rw[e];simp);simp at hb;omega) kX;obtain⟨la2,lc2,iI⟩:=rep.raw.bm;subst iI;have wU:=HO.out;have Iu:∀ c,row=some c→BX<c:=fun c e=>by obtain⟨G,hG⟩:=ep c e;exact HD.out.2.2 c (by rw[hG];simp)
  have Bt:=(r7.out.later eP).grow fw (fun c e=>by have:=Iu c e;omega);have EC:Marks (fun c=>c=BX) X (X.setCell ⟨BX,2,none⟩ (.slice la2 (i+1) lc2)):=Marks.sc (S:=fun c=>c=BX) X rfl _ _;have B4:=uh (Bt.Gm EC (Bt.bbx.set 2 (.slice la2 (i+1) lc2) (by simp)));have kr:=uh (((Qo.out.later eP).bo fz (fun c e=>Or.inr (by have:=Iu c e;omega))).bo EC (fun c e=>Or.inr (by have:c=BX:=e;omega)));have nz:=uh (((KZ.out.later eP).grown fw (fun c e=>by have:=Iu c e;omega)).mks EC (fun c e=>by have:c=BX:=e;omega));have tJ:∀ c∈F4,BX<c:=fun c e=>by
   have h8:=r7.out.ord;have h9:=eP.size;rcases jL c e with q|q|q
   ·exact HD.out.2.2 c q
   ·simp at q;omega
   ·omega
  have wh:Hid (Rep (X.setCell ⟨BX,2,none⟩ (.slice la2 (i+1) lc2)) false bF F4 [bT (ls++[(⟨{data:=#[109,97,114,107]},[({data:=#[109]}++{data:=#[c]})]⟩:Pl.Ln)])] [.slice la2 (i+1) lc2]∧(∀ p G,F4=p::G→p ∉ G)∧∀ c∈F4,BX<c):=by
   refine⟨?_,fun p G e=>(nd4 p G e).1,tJ⟩;have e:bT (ls++[(⟨{data:=#[109,97,114,107]},[({data:=#[109]}++{data:=#[c]})]⟩:Pl.Ln)])=.row (i+1) (ls.flatMap lnD++lnD ⟨{data:=#[109,97,114,107]},[({data:=#[109]}++{data:=#[c]})]⟩):=by unfold bT;rw[List.flatMap_append,List.flatMap_singleton,List.length_append,List.length_singleton,HL.out.1]
   rw[e];exact rep.bo EC (fun c hc e=>by have e:c=BX:=e;have:=tJ c hc;omega)
  have Oa:Hid ((ls++[(⟨{data:=#[109,97,114,107]},[({data:=#[109]}++{data:=#[c]})]⟩:Pl.Ln)]).length=i+1∧((ls++[(⟨{data:=#[109,97,114,107]},[({data:=#[109]}++{data:=#[c]})]⟩:Pl.Ln)]).map fun x=>Pl.wln x+1).sum≤(i+1)*20):=by
   refine⟨by rw[List.length_append,List.length_singleton,HL.out.1], ?_⟩;rw[List.map_append,List.sum_append];have h1:=HL.out.2;have h2:([(⟨{data:=#[109,97,114,107]},[({data:=#[109]}++{data:=#[c]})]⟩:Pl.Ln)].map fun x=>Pl.wln x+1).sum=8:=by simp[Pl.wln];rfl
   rw[h2];omega
  have y2:=Bt.bbx.get 2 _ rfl;have yf:=Bt.bbx.own.frozen;have yl:=Bt.bbx.own.lt;rw[fA,si]at dM;clear hc tM Pg eP eD kX gh rep nd4 jL fw ep fz wU Iu Bt EC tJ fA si gH r7 Qo HD HL KZ;go_wp2_with (at_builtin;refine Go.Lib.wpList_append_run _ rfl _ _ 39 39 rfl _ _ rfl rfl _ X dM ?_)
  go_roundw
  case rel=>exact⟨i+1,_,F4,la2,lc2,by omega,by go_num,B4.out,kr.out,wh.out,Oa.out,nz.out⟩
  case measure=>simp[intOf];omega
theorem QF {q p i pp:Nat} (h:pp≤q+7000*(i+1)) (h2:q≤p+10) (h3:i≤61):pp≤p+1000000:=by
 have h4:7000*(i+1)≤7000*62:=Nat.mul_le_mul_left 7000 (show i+1≤62 by omega);generalize 7000*(i+1)=y at h h4;omega
theorem AY (X:World) (B:Nat) (c d:UInt8) (h0:X.cell? ⟨B,0,none⟩=some (.int .u8 (c.toNat:Int))) (h1:X.cell? ⟨B,1,none⟩=some (.int .u8 (d.toNat:Int))):(convert 22 9 (.slice (some ⟨B,0,none⟩) 2 2)).run Tryz.prog X=.ok (.string ⟨#[c,d]⟩) X:=by
 refine run_convert_bytes_back (P:=Tryz.prog) X 22 9 5 ⟨B,0,none⟩ 2 [c,d] Tryz.dv (by kernel_rfl) (by kernel_rfl) fun j hj=> ?_;have:j=0∨j=1:=by simp at hj;omega
 rcases this with rfl|rfl
 ·exact h0
 ·exact h1
def VS8 (R:Nat) (Q:Nat) (xa:Option Addr) (n xc:Nat):Nat→Value→World→Prop
 |0,u,_=>u=.pointer (some ⟨Q,0,none⟩)
 |1,u,_=>u=.slice xa n xc
 |2,u,_=>u=.int .i64 (n:Int)
 |3,u,_=>u=.pointer (some ⟨R,0,none⟩)
 |4,u,_=>∃ j:Nat,u=.int .i64 (j:Int)∧j<2
 |5,u,_=>∃ N:Nat,u=.int .i64 (N:Int)∧N≤61
 |6,u,_=>∃ N:Nat,u=.bool (decide ((n:Int)<(N:Int)))∧N≤61
 |_,_,_=>True
theorem CO (R:Nat) (Q:Nat) (xa:Option Addr) (n xc:Nat):∀ j u W W',Fr R W W'→R<W.heap.size→VS8 R Q xa n xc j u W→VS8 R Q xa n xc j u W':=by
 intro j u W W' hb bd h;match j with
 |0=>exact h
 |1=>exact h
 |2=>exact h
 |3=>exact h
 |4=>exact h
 |5=>exact h
 |6=>exact h
 |n+7=>exact trivial
theorem Ha:g6 8:=by
 intro W0 W b R v len p q B0 Q BX lo xp xo xc k n s la lc HP HX HN HB HR K hK u1 u2 u3 u9 u10 u11 u12 u13 u14 u15 u16 u17 u18 u19 u20 u21 u22 u23 u24 u25 u26 u27 u28 u29 u30 u31 u32 u33 u34 u35 u36 u37 u39 u40 u41 u42 u43 u44 u45 u46 u47 u48 u49 u50 u51 u52 u53 u54 u55 u56 u57 u58 u59 u60 u61 u62 u63 u64 u65 u66 u67 u68 u69 u70 u71 u72 u73 u74 u75 u76 u77 u78 u79 u80 u81 u82 u83 u84 u85 u86 u87 u88 u89 u90 u91 u92 u93 u94 u95 u96 u97 u98 u99 u100 u101 u102 u103 u104 u105 u106 u107 u108 u109 u110 u111 u112 u113 u114 u115 u116 u117 u118 u119 u120 u121 u122 u123 u124 u125 u126 u127 u128 u129 u130 u131 u132 u133 u134 u135 u136 u137 u138 u139 u140 u141 u142 u143 u144 u145 u146 u147 u148 u149 u150 u151 u152 u153 u154 u155 u156 u157 u158 u159 u160 u161 u162 u163 u164 u165 u166 u167 u168 u169 u170 u171 u172 u173 u174 u175 u176 u177 u178 u179 u180 u181 u182 u183 u184 u185 u186 u187 u188 u189 u190 u191 u192 u193 u194 u195 u196 u197 u198;rw[show ((8:Nat):Int)=(8:Int) from rfl];have wU:=HP.out.ord;have bd:=HX.out.lt;have HO:Hid (R<lo∧lo≤Q∧Q<BX∧xp<Q):=⟨by omega,by omega,by omega,by omega⟩
 obtain⟨F,r,nd,hF⟩:=HX.out.rep;obtain⟨Gk,rk,nk,hG,hh⟩:=HX.out.hole;obtain⟨G0,MF⟩:=lx r (by have:=HN.out.1;omega);have Lk:=uh hG;have EN:=uh rk;have HD:Hid (Rep W false bu F [bD s] [.slice (some ⟨xp,xo,none⟩) s.length xc]∧(∀ p G,F=p::G→p ∉ G∧p ∉ Gk)∧∀ c∈F,lo≤c∧c≠Q∧c≠BX):=by
  refine⟨r,fun p G e=> ?_,fun c hc=>by have:=hF c hc;omega⟩;rw[MF]at e nd;injection e with e1 e2
  subst e1;subst e2;exact⟨(List.nodup_cons.1 nd).1,fun hk=>(hG _ hk).2.1 rfl⟩
 clear wU bd r nd hF rk nk hG hh MF;simp only[sw,sk6,sk5,sk4,sk3,sk2,sk1,sk0,Tryz.f36,Option.getD_some,cr,cB];go_upto_region 8 with fail
 go_wp2;go_loopw [12] (fun vi wr=>∃ (i:Nat) (s1:List Pl.Bl) (F:List Nat) (xa:Option Addr) (xc1 q1:Nat),i≤61∧vi=.int .i64 (i:Int)∧SP W0 wr R B0 Q BX lo (.slice xa s1.length xc1) b.kind b.name (.slice la b.lines.length lc)∧(Rep wr false bu F [bD s1] [.slice xa s1.length xc1]∧(∀ p G,F=p::G→p ∉ G∧p ∉ Gk)∧∀ c∈F,lo≤c∧c≠Q∧c≠BX)∧Rep wr false bF Gk [bT b.lines] [.slice la b.lines.length lc]∧(s1.length=s.length+i∧(0<i→s1.length≤61)∧Pl.wsh s1≤Pl.wsh s+i*20)∧q1≤q+7000*i∧Rd wr R v len q1) (fun vi _=>61 - (intOf vi).toNat)
 case atStart=>exact⟨0,s,F,_,xc,q,by omega,rfl,HP.out,HD.out,EN.out,⟨rfl,by simp,by omega⟩,by omega,HR.out.1⟩
 case round=>
  obtain⟨i,s1,F,xa,xc1,q1,him,rfl,hp,hd,hg,hl,hq,hr⟩:=hrel;clear HD EN;have r7:=uh hp;have HD:=uh hd;have EN:=uh hg;have HL:=uh hl;have FP:Hid (q1≤q+7000*i∧i≤61∧q≤p+10∧p≤300000000000):=⟨hq,him,HR.out.2⟩
  have KZ:=uh hr;clear hp hd hg hl hq hr;go_upto_region 9 with fail
  refine RY.AM R v len q1 KZ.out (VS8 R Q xa s1.length xc1) (CO R _ _ _ _) (by kernel_rfl) (by kernel_rfl) (by kernel_rfl) (by kernel_rfl) ?_ ?_
  ·intro i' o' ho a X pp hX hR wT hk hd;have zb:=r7.out.box.fr hX (by have:=HO.out;omega);have zc:=zb.get 0 _ rfl;have zl:=zb.own.lt;match i',ho with
   |0,ho=>
    injection ho with ho;subst ho
    have e5:a.tmps[5]?.getD undef=.pointer (some ⟨Q,0,none⟩):=(RY.af a 5).trans ((hk 5 (by kernel_rfl)).trans rfl);exact Or.inl ⟨.pointer (some ⟨Q,0,none⟩),X,by simp[execOp,go_sem,e5],zR,rfl⟩
   |1,ho=>
    injection ho with ho;subst ho
    have e39:a.tmps[39]?.getD undef=_:=(RY.af a 39).trans (hd 0 _ 39 rfl rfl ⟨⟨0,.data⟩,by simp,rfl,rfl⟩);exact Or.inl ⟨.slice xa s1.length xc1,X,by simp[execOp,go_sem,e39,zc],zR,rfl⟩
   |2,ho=>
    injection ho with ho;subst ho
    have e40:a.tmps[40]?.getD undef=_:=(RY.af a 40).trans (hd 1 _ 40 rfl rfl ⟨⟨1,.data⟩,by simp,rfl,rfl⟩);exact Or.inl ⟨.int .i64 (s1.length:Int),X,by simp[go_sem,e40],zR,rfl⟩
   |3,ho=>
    injection ho with ho;subst ho
    have e0:a.tmps[0]?.getD undef=.pointer (some ⟨R,0,none⟩):=(RY.af a 0).trans ((hk 0 (by kernel_rfl)).trans rfl);exact Or.inl ⟨.pointer (some ⟨R,0,none⟩),X,by simp[execOp,go_sem,e0],zR,rfl⟩
   |4,ho=>
    injection ho with ho;subst ho
    have e42:a.tmps[42]?.getD undef=_:=(RY.af a 42).trans (hd 3 _ 42 rfl rfl ⟨⟨3,.data⟩,by simp,rfl,rfl⟩);refine Or.inr ⟨12,#[.pointer (some ⟨R,0,none⟩),.int .i64 2],by simp[go_sem,e42],(bb R v len pp 2 X hR (by simp at wT;have:=FP.out;omega) (by omega)).mono ?_⟩;rintro e W' ⟨⟨r,rfl,hr⟩,hF,Ia⟩;obtain⟨j,rfl,hj⟩:=hr.nat;exact⟨_,rfl,hF,⟨pp+1,by omega,Ia⟩,j,rfl,by have:=hj (by omega);omega⟩
   |5,ho=>
    injection ho with ho;subst ho
    obtain⟨j,ea,hj⟩:=hd 4 _ 43 rfl rfl ⟨⟨4,.data⟩,by simp,rfl,rfl⟩;have f1:=(RY.af a 43).trans ea;have hw:IntKind.i64.wrap (60+(j:Int))=((60+j:Nat):Int):=by rw[wrap_small _ (by omega) (by omega)];omega
    exact Or.inl ⟨.int .i64 ((60+j:Nat):Int),X,by simp[execOp,go_sem,f1,hw],zR,60+j,rfl,by omega⟩
   |6,ho=>
    injection ho with ho;subst ho
    obtain⟨N,ea,hN⟩:=hd 5 _ 44 rfl rfl ⟨⟨5,.data⟩,by simp,rfl,rfl⟩;have f1:=(RY.af a 44).trans ea;have f2:a.tmps[41]?.getD undef=_:=(RY.af a 41).trans (hd 2 _ 41 rfl rfl ⟨⟨2,.data⟩,by simp,rfl,rfl⟩);exact Or.inl ⟨.bool (decide ((s1.length:Int)<(N:Int))),X,by simp[execOp,go_sem,f1,f2],zR,N,rfl,hN⟩
   |n+7,ho=>simp at ho
  intro X vs pp hX hR wT bg;have q45:=bg 6 _ 45 rfl rfl;simp only[RY.aC,Act.put,List.setIfInBounds_toArray,List.set_cons_zero,List.set_cons_succ];obtain⟨N,e45,hN⟩:=q45;rw[e45];generalize vs 39=nS,vs 40=s40,vs 41=s41,vs 42=s42,vs 43=s43,vs 44=s44;clear bg e45;have Na:=uh (r7.out.step hX);have fz:=hX.i4 KZ.out hR;have hR0:=HO.out;have yi:Hid (Rep X false bu F [bD s1] [.slice xa s1.length xc1]∧(∀ p G,F=p::G→p ∉ G∧p ∉ Gk)∧∀ c∈F,lo≤c∧c≠Q∧c≠BX):=⟨HD.out.1.bo fz (fun c hc e=>by have e:c=R:=e;have:=HD.out.2.2 c hc;omega),HD.out.2⟩
  have Qz:=uh (EN.out.bo fz (fun c hc e=>by have e:c=R:=e;have:=Lk.out c hc;omega));have OV:Hid (Rd X R v len pp∧pp≤q+7000*(i+1)):=⟨hR,by simp at wT;have:=FP.out;omega⟩
  have Fu:Hid (pp≤p+1000000):=QF OV.out.2 FP.out.2.2.1 FP.out.2.1;clear hX hR wT fz hR0 r7 HD EN KZ;by_cases bd:s1.length<N
  rotate_left
  ·have Je:¬ ((s1.length:Int)<(N:Int)):=by omega
   go_wp2;have wU:=HO.out;have hl:=HL.out;have zv:=HN.out.1;obtain⟨p9,o9,mN⟩:∃ p o,xa=some ⟨p,o,none⟩:=by
    rcases yi.out.1.slice with⟨_,h0,_⟩|⟨p,o,c,u,m,G,hv,_⟩
    ·omega
    ·injection hv with hv _ _;exact⟨p,o,hv⟩
   subst mN;obtain⟨PH,ko,tQ⟩:=uR yi.out.1 (fun p G e=>(yi.out.2.1 p G e).1) (fun c hc=>(yi.out.2.2 c hc).1) (by omega);obtain⟨G9,iK⟩:=lx yi.out.1 (by omega);have h9:=yi.out.2.2 p9 (by rw[iK];simp);have R2:=(yi.out.2.1 p9 G9 iK).2;have tE:k<s1.length:=by omega
   have Fc:=PH.put tE b (N:=X.heap.size) ⟨Gk,Qz.out,fun c hc=>Or.inl ⟨⟨(Lk.out c hc).1,fun e=>R2 (e ▸ hc)⟩,Qz.out.lt c hc⟩⟩ (yi.out.1.lt p9 (by rw[iK];simp));have jH:=Na;have jK:Hid (dQ (X.setCells p9 (o9+k*3) [.string b.kind,.string b.name,.slice la b.lines.length lc]) p9 o9 lo (s1.set k b)∧Sw (s1.set k b)):=by
    refine⟨Fc,⟨?_, ?_⟩⟩
    ·rw[List.length_set];have:=HB.out.len;by_cases gF:i=0
     ·omega
     ·have:=hl.2.1 (by omega);omega
    ·have h1:=oi s1 k b;have h3:=HB.out.wsh;have h4:=(HB.out.one (HX.out.mem zv)).1;have h5:=hl.2.2;have h6:i*20≤61*20:=Nat.mul_le_mul_right _ (by omega);omega
   have jF:Hid ((s1.set k b).length=s1.length∧(s1.length≤maxLen∧s1.length≤xc1)∧k<s1.length∧p9≠Q∧p9≠BX∧lo≤p9∧X.there p9 (o9+k*3) 3):=⟨by rw[List.length_set],⟨ko,tQ⟩,tE,h9.2.1,h9.2.2,h9.1,PH.there tE⟩
   have iG:Hid (Rd X R v len pp∧pp≤p+1000000):=⟨OV.out.1,Fu.out⟩
   exact dL W0 _ R v len p _ B0 Q BX lo p9 o9 xc1 k s1.length _ _ _ la _ lc jH jK jF iG _ _ _ _ _ _ _ _ _ _ _ _ _ _ _ _ _ _ _ _ _ _ _ _ _ _ _ _ _ _ _ _ _ _ _ _ _ _ _ _ _ _ _ _ _ _ _ _ _ _ _ _ _ _ _ _ _ _ _ _ _ _ _ _ _ _ _ _ _ _ _ _ _ _ _ _ _ _ _ _ _ _ _ _ _ _ _ _ _ _ _ _ _ _ _ _ _ _ _ _ _ _ _ _ _ _ _ _ _ _ _ _ _ _ _ _ _ _ _ _ _ _ _ _ _ _ _ _ _ _ _ _ _ _ _ _ _ _ _ _ _ _ _ _ _ _ _ _ _ _ _ _ _ _ _ _ _ _ _ _ _ _ _ _ _ _ _ _ _ _ _ _ _ _ _ _ _ _ _ _ _ _ _ _ _ _ _ _ _ _ _ _ _ _
  have fJ:((s1.length:Int)<(N:Int)):=by omega
  have hi61:i<61:=by have:=HL.out;omega
  obtain⟨a1,Qm⟩:∃ a,a=i / 26:=⟨_,rfl⟩
  obtain⟨a2,RE⟩:∃ a,a=i % 26:=⟨_,rfl⟩
  obtain⟨c1,mJ⟩:=letter a1 (by omega);obtain⟨c2,lQ⟩:=letter a2 (by omega);have e1:IntKind.i64.wrap ((i:Int) / 26)=(a1:Int):=by rw[wrap_small _ (by omega) (by omega)];omega
  have e2:(i:Int).tmod 26=(a2:Int):=by rw[Int.tmod_eq_emod_of_nonneg (by omega)];omega
  have e3:IntKind.i64.wrap (97+(a1:Int))=97+(a1:Int):=wrap_small _ (by omega) (by omega);have e4:IntKind.u8.wrap (97+(a1:Int))=97+(a1:Int):=oO _ (by omega) (by omega);have e5:IntKind.i64.wrap (97+(a2:Int))=97+(a2:Int):=wrap_small _ (by omega) (by omega);have e6:IntKind.u8.wrap (97+(a2:Int))=97+(a2:Int):=oO _ (by omega) (by omega);have Ie:=AY (X.alloc (.cells #[.int .u8 (97+(a1:Int)),.int .u8 (97+(a2:Int))] 5)) X.heap.size c1 c2 (by rw[mJ];simp) (by rw[lQ];simp);obtain⟨W1,ia⟩:∃ W1,W1=X.alloc (.cells #[.int .u8 (97+(a1:Int)),.int .u8 (97+(a2:Int))] 5):=⟨_,rfl⟩
  have dJ:W1.heap.size=X.heap.size+1:=by rw[ia];simp
  have bJ:Bel X W1:=by rw[ia];exact ae zR _
  obtain⟨W3,fA⟩:∃ W3,W3=W1.alloc (.cells #[.string {data:=#[116,101,97,109]},.string ({data:=#[116]}++{data:=#[c1,c2]}),.slice none 0 0] 41):=⟨_,rfl⟩
  have eP:Bel X W3:=by rw[fA];exact ae bJ _
  have Br:X.heap.size≤W3.heap.size:=eP.size;have kX:=pS W1 #[.string {data:=#[116,101,97,109]},.string ({data:=#[116]}++{data:=#[c1,c2]}),.slice none 0 0] 41;rw[dJ,← fA]at kX;have gh:Rep W3 false ak ([]++[]) (blD (⟨{data:=#[116,101,97,109]},({data:=#[116]}++{data:=#[c1,c2]}),[]⟩:Pl.Bl)) [.string {data:=#[116,101,97,109]},.string ({data:=#[116]}++{data:=#[c1,c2]}),.slice none 0 0]:=bG {data:=#[116,101,97,109]} ({data:=#[116]}++{data:=#[c1,c2]}) (Rep.emp _ _ none rfl .nil);obtain⟨v',Y,F4,row,dM,rep,nd4,jL,fw,ep,fz⟩:=lC (P:=Tryz.prog) 23 23 41 3 56 _ Tryz.cn Tryz.i9 rfl (by decide) ak rfl W3 (yi.out.1.later eP) (fun p G e=>(yi.out.2.1 p G e).1) (by have:=HL.out;omega) (F':=[]++[]) (d:=blD (⟨{data:=#[116,101,97,109]},({data:=#[116]}++{data:=#[c1,c2]}),[]⟩:Pl.Bl)) (c':=[.string {data:=#[116,101,97,109]},.string ({data:=#[116]}++{data:=#[c1,c2]}),.slice none 0 0]) ⟨X.heap.size+1,0,none⟩ gh (by simp) kX;obtain⟨xa2,xc2,iI⟩:=rep.raw.bm;subst iI;have wU:=HO.out;have Iu:∀ c,row=some c→(lo≤c∧c≠Q∧c≠BX)∧c ∉ Gk:=fun c e=>by obtain⟨G,hG⟩:=ep c e;exact⟨yi.out.2.2 c (by rw[hG];simp),(yi.out.2.1 c G hG).2⟩
  have hxo:=Na.out.ord;have Bt:=(Na.out.later eP).grow fw (fun c e=>(Iu c e).1);have EC:Marks (fun c=>c=Q) Y (Y.setCell ⟨Q,0,none⟩ (.slice xa2 (s1.length+1) xc2)):=Marks.sc (S:=fun c=>c=Q) Y rfl _ _;have ko:(s1++[(⟨{data:=#[116,101,97,109]},({data:=#[116]}++{data:=#[c1,c2]}),[]⟩:Pl.Bl)]).length=s1.length+1:=by rw[List.length_append,List.length_singleton]
  have B4:Hid (SP W0 (Y.setCell ⟨Q,0,none⟩ (.slice xa2 (s1.length+1) xc2)) R B0 Q BX lo (.slice xa2 (s1++[(⟨{data:=#[116,101,97,109]},({data:=#[116]}++{data:=#[c1,c2]}),[]⟩:Pl.Bl)]).length xc2) b.kind b.name (.slice la b.lines.length lc)):=by
   show SP _ _ _ _ _ _ _ _ _ _ _;rw[ko];exact Bt.IP EC (Bt.box.set 0 (.slice xa2 (s1.length+1) xc2) (by simp))
  have nz:Hid (pp≤q+7000*(i+1)∧Rd (Y.setCell ⟨Q,0,none⟩ (.slice xa2 (s1.length+1) xc2)) R v len pp):=⟨OV.out.2,((OV.out.1.later eP).grown fw (fun c e=>by have:=(Iu c e).1;omega)).mks EC (fun c e=>by have:c=Q:=e;omega)⟩
  have NW:=uh (((Qz.out.later eP).grown fw (fun c hc e=>(Iu c e).2 hc)).bo EC (fun c hc e=>by have e:c=Q:=e;have:=Lk.out c hc;omega));have tJ:∀ c∈F4,lo≤c∧c≠Q∧c≠BX:=fun c e=>by
   rcases jL c e with q|q|q
   ·exact yi.out.2.2 c q
   ·simp at q
   ·omega
  have wh:Hid (Rep (Y.setCell ⟨Q,0,none⟩ (.slice xa2 (s1.length+1) xc2)) false bu F4 [bD (s1++[(⟨{data:=#[116,101,97,109]},({data:=#[116]}++{data:=#[c1,c2]}),[]⟩:Pl.Bl)])] [.slice xa2 (s1++[(⟨{data:=#[116,101,97,109]},({data:=#[116]}++{data:=#[c1,c2]}),[]⟩:Pl.Bl)]).length xc2]∧(∀ p G,F4=p::G→p ∉ G∧p ∉ Gk)∧∀ c∈F4,lo≤c∧c≠Q∧c≠BX):=by
   refine⟨?_,fun p G e=>⟨(nd4 p G e).1,fun hk=> ?_⟩,tJ⟩
   ·have e:bD (s1++[(⟨{data:=#[116,101,97,109]},({data:=#[116]}++{data:=#[c1,c2]}),[]⟩:Pl.Bl)])=.row (s1.length+1) (s1.flatMap blD++blD (⟨{data:=#[116,101,97,109]},({data:=#[116]}++{data:=#[c1,c2]}),[]⟩:Pl.Bl)):=by unfold bD;rw[List.flatMap_append,List.flatMap_singleton,ko]
    rw[e,ko];exact rep.bo EC (fun c hc e=>(tJ c hc).2.1 e)
   ·rcases(nd4 p G e).2 with⟨G',e2⟩|e2
    ·exact(yi.out.2.1 p G' e2).2 hk
    ·have:=Lk.out p hk;omega
  have Oa:Hid ((s1++[(⟨{data:=#[116,101,97,109]},({data:=#[116]}++{data:=#[c1,c2]}),[]⟩:Pl.Bl)]).length=s.length+(i+1)∧(0<i+1→(s1++[(⟨{data:=#[116,101,97,109]},({data:=#[116]}++{data:=#[c1,c2]}),[]⟩:Pl.Bl)]).length≤61)∧Pl.wsh (s1++[(⟨{data:=#[116,101,97,109]},({data:=#[116]}++{data:=#[c1,c2]}),[]⟩:Pl.Bl)])≤Pl.wsh s+(i+1)*20):=by
   have h1:=HL.out;refine⟨by rw[ko];omega,fun _=>by rw[ko];omega, ?_⟩;rw[uS];have h2:Pl.wbl (⟨{data:=#[116,101,97,109]},({data:=#[116]}++{data:=#[c1,c2]}),[]⟩:Pl.Bl)=7:=by simp[Pl.wbl];rfl
   rw[h2];omega
  have x0:=Na.out.box.get 0 _ rfl;have xl:=Na.out.box.own.lt;have y0:=Bt.box.get 0 _ rfl;have yf:=Bt.box.own.frozen;have yl:=Bt.box.own.lt;rw[fA,ia]at dM;clear mJ lQ Qm RE bJ eP Br kX gh rep nd4 jL fw ep fz wU Iu hxo Bt EC ko tJ fA ia dJ Na yi Qz OV HL bd;go_wp2_with (at_builtin;refine Go.Lib.wpList_append_run _ rfl _ _ 23 23 rfl _ _ rfl rfl _ Y dM ?_)
  go_roundw
  case rel=>exact⟨i+1,_,F4,xa2,xc2,pp,by omega,by go_num,B4.out,wh.out,NW.out,Oa.out,nz.out⟩
  case measure=>simp[intOf];omega
end Go.Proofs.YtopjjknojnfhmaaGreatDoor
