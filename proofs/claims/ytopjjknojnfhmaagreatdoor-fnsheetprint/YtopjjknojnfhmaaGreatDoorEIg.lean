import Derived.Test.YtopjjknojnfhmaaGreatDoorEIo
import Derived.Test.YtopjjknojnfhmaaGreatDoorRgG
namespace Go.Proofs.YtopjjknojnfhmaaGreatDoor
set_option maxRecDepth 8000
set_option maxHeartbeats 40000000
open Go.RowKit Go.Deep
theorem Pl.me {n:Nat} {a b:Bool} (h:a=b):Ending.returned (.tuple #[.int .i64 (n:Nat),.bool a])=.returned (.tuple #[.int .i64 (n:Nat),.bool b]):=by rw[h]
def J6 (p:Nat) (o:Nat) (c:Nat) (b:Nat) (n:Nat) (x:Pl.Bl) (t:Pl.Bl) (ax:Option Addr) (cx:Nat) (r:Int):Nat→Value→World→Prop
 |0,vv,_|1,vv,_|7,vv,_|14,vv,_=>vv=.int .i64 (b:Int)
 |2,vv,_=>vv=.int .i64 (n:Int)
 |3,vv,_|4,vv,_|12,vv,_|13,vv,_|15,vv,_=>vv=.bool true
 |5,vv,_=>vv=.func (.func 23) #[] #[]
 |6,vv,_=>vv=.slice (some ⟨p,o,none⟩) n c
 |8,vv,_=>vv=.pointer (some ⟨p,o+b*3,none⟩)
 |9,vv,_=>vv=.agg #[.string x.kind,.string x.name,.slice ax x.lines.length cx]
 |10,vv,_=>vv=.agg #[.string t.kind,.string t.name,.slice none 0 0]
 |11,vv,_=>vv=.int .i64 r
 |_,_,_=>True
theorem zT (p:Nat) (o:Nat) (c:Nat) (b:Nat) (n:Nat) (x:Pl.Bl) (t:Pl.Bl) (ax:Option Addr) (cx:Nat) (r:Int):∀ jj vv W W',Bel W W'→J6 p o c b n x t ax cx r jj vv W→J6 p o c b n x t ax cx r jj vv W':=by
 intro jj vv W W' hb h;match jj with
 |0|1|2|3|4|5|6|7|8|9|10|11|12|13|14|15=>exact h
 |n+16=>exact trivial
def KM (p:Nat) (o:Nat) (c:Nat) (b:Nat) (n:Nat) (x:Pl.Bl) (t:Pl.Bl) (ax:Option Addr) (cx:Nat) (r:Int):Nat→Value→World→Prop
 |0,vv,_|1,vv,_|7,vv,_|14,vv,_=>vv=.int .i64 (b:Int)
 |2,vv,_=>vv=.int .i64 (n:Int)
 |3,vv,_|4,vv,_=>vv=.bool true
 |5,vv,_=>vv=.func (.func 23) #[] #[]
 |6,vv,_=>vv=.slice (some ⟨p,o,none⟩) n c
 |8,vv,_=>vv=.pointer (some ⟨p,o+b*3,none⟩)
 |9,vv,_=>vv=.agg #[.string x.kind,.string x.name,.slice ax x.lines.length cx]
 |10,vv,_=>vv=.agg #[.string t.kind,.string t.name,.slice none 0 0]
 |11,vv,_=>vv=.int .i64 r
 |12,vv,_|13,vv,_|15,vv,_=>vv=.bool false
 |_,_,_=>True
theorem Am (p:Nat) (o:Nat) (c:Nat) (b:Nat) (n:Nat) (x:Pl.Bl) (t:Pl.Bl) (ax:Option Addr) (cx:Nat) (r:Int):∀ jj vv W W',Bel W W'→KM p o c b n x t ax cx r jj vv W→KM p o c b n x t ax cx r jj vv W':=by
 intro jj vv W W' hb h;match jj with
 |0|1|2|3|4|5|6|7|8|9|10|11|12|13|14|15=>exact h
 |n+16=>exact trivial
def Kf (b:Nat) (n:Nat):Nat→Value→World→Prop
 |0,vv,_|1,vv,_|14,vv,_=>vv=.int .i64 (b:Int)
 |2,vv,_=>vv=.int .i64 (n:Int)
 |3,vv,_|4,vv,_|13,vv,_|15,vv,_=>vv=.bool false
 |5,vv,_|6,vv,_|7,vv,_|8,vv,_|9,vv,_|10,vv,_|11,vv,_|12,vv,_=>vv=undef
 |_,_,_=>True
theorem Ba (b:Nat) (n:Nat):∀ jj vv W W',Bel W W'→Kf b n jj vv W→Kf b n jj vv W':=by
 intro jj vv W W' hb h;match jj with
 |0|1|2|3|4|5|6|7|8|9|10|11|12|13|14|15=>exact h
 |n+16=>exact trivial
theorem NI  (L:List Pl.Bl) (v:Value) (t:Pl.Bl) (q:Nat) (w:World)  (h:Raw w bu [bD L] [v])  (zG:L.length≤1048576) (hq:q≤L.length) (h1:∀ i,i<q→dm (L.getD i Pl.aN) t<0) (h2:∀ i,q≤i→i<L.length→0≤dm (L.getD i Pl.aN) t):
  Calls Tryz.prog 100 #[v,.agg #[.string t.kind,.string t.name,.slice none 0 0],.func (.func 23) #[] #[]] w fun e w'=>e=.returned (.tuple #[.int .i64 (q:Nat),.bool (decide (q<L.length)&&decide (dm (L.getD q Pl.aN) t=0))])∧Bel w w':=by
 have HH:=uh (And.intro h (And.intro h1 h2));have R4:=uh (True.intro);obtain⟨a0,c,ev⟩:=h.bm;subst ev;obtain⟨R,hR⟩:∃ R,R=(decide (q<L.length)&&decide (dm (L.getD q Pl.aN) t=0)):=⟨_,rfl⟩
 have HR:Hid (R=(decide (q<L.length)&&decide (dm (L.getD q Pl.aN) t=0))):=hR;rw[← hR];clear h h1 h2 hR;obtain⟨wa,aZ⟩:∃ wa,wa=w.alloc (.cells #[.string t.kind,.string t.name,.slice none 0 0] 41):=⟨_,rfl⟩
 obtain⟨b0,ym⟩:∃ b0,b0=w.heap.size:=⟨_,rfl⟩
 have vZ:Hid (Bel w wa):=by show Below _ _ _;rw[aZ];exact ae zR _
 have ey:Hid (aS wa b0 [.string t.kind,.string t.name,.slice none 0 0]):=by show aS _ _ _;rw[aZ,ym];exact aS.new w #[.string t.kind,.string t.name,.slice none 0 0] _ _ rfl
 obtain⟨n,hn⟩:∃ n,n=L.length:=⟨_,rfl⟩
 have HN:=uh hn;rw[← hn]at HR hq zG;rw[← hn];clear hn;go_enter Tryz.func100,Tryz.ntmps100
 go_upto_region 1 with fail
 rw[← aZ,← ym];clear aZ ym;go_wp2_with fail
 go_loopw [9,10] (fun i j wr=>∃ a b:Nat,i=.int .i64 (a:Nat)∧j=.int .i64 (b:Nat)∧a≤q∧q≤b∧b≤n∧Bel wa wr) (fun i j _=>(intOf j).toNat - (intOf i).toNat)
 case atStart=>exact⟨0,n,rfl,rfl,zN,hq,zE,zR⟩
 case round=>
  obtain⟨a,b,rfl,rfl,ha,hb,eY,hW⟩:=hrel;have kz:Hid (Bel w wr):=ah vZ.out hW;have wS:=uh hW;clear hW;by_cases bd:a<b
  ·obtain⟨m,hm⟩:∃ m,m=(a+b) / 2:=⟨_,rfl⟩
   have ns:a≤m:=by omega
   have tL:m<b:=by omega
   obtain⟨x,hx⟩:∃ x,x=L.getD m Pl.aN:=⟨_,rfl⟩
   have p7:=uh (wS.out.drew);have BD:=uh (kz.out.drew);have y0:wr.drew.cell? ⟨b0,0,none⟩=some (.string t.kind):=(ey.out.later wS.out.drew).get 0 _ rfl;have y1:wr.drew.cell? ⟨b0,1,none⟩=some (.string t.name):=(ey.out.later wS.out.drew).get 1 _ rfl;have y2:wr.drew.cell? ⟨b0,2,none⟩=some (.slice none 0 0):=(ey.out.later wS.out.drew).get 2 _ rfl;have yl:=(ey.out.later wS.out.drew).lt;rcases db HH.out.1 with⟨e0,_⟩|⟨p,o,c',hv,hp,_,aO⟩
   ·have:=HN.out;omega
   injection hv with g1 _ g3
   subst g1;subst g3;obtain⟨ax,cx,hg,fe⟩:=aO m (by have:=HN.out;omega);rw[← hx]at hg fe;have fw:=aB hg hp kz.out.drew;have ME:p<wr.drew.heap.size:=zL hp kz.out.drew.size;have c0:wr.drew.cell? ⟨p,o+m*3,none⟩=some (.string x.kind):=aE fw 0 _ rfl;have c1:wr.drew.cell? ⟨p,o+m*3+1,none⟩=some (.string x.name):=aE fw 1 _ rfl;have c2:wr.drew.cell? ⟨p,o+m*3+2,none⟩=some (.slice ax x.lines.length cx):=aE fw 2 _ rfl;obtain⟨r,hr⟩:∃ r,r=dm x t:=⟨_,rfl⟩
   have oB:Hid (∀ W,Bel w W→Calls Tryz.prog 23 #[.agg #[.string x.kind,.string x.name,.slice ax x.lines.length cx],.agg #[.string t.kind,.string t.name,.slice none 0 0]] W fun e w'=>e=.returned (.int .i64 r)∧Bel W w'):=fun W _=>by rw[hr];exact xb _ _ _ _ _ _ W
   have HP:Hid ((r<0→m<q)∧(¬ r<0→q≤m)):=by
    refine⟨fun hz=> ?_,fun hz=> ?_⟩
    ·refine Nat.lt_of_not_le fun hh=> ?_;have:=HH.out.2.2 m hh (by have:=HN.out;omega);rw[← hx,← hr]at this;omega
    ·refine Nat.le_of_not_lt fun hh=> ?_;have:=HH.out.2.1 m hh;rw[← hx,← hr]at this;exact hz this
   have Ol:Hid (((a:Int)+(b:Int)) / 2=(m:Int)):=by show _=_;omega
   clear hr aO hg fw fe hx hm;have oJ:(0:Int)≤(m:Int):=by omega
   have wN:(m:Int)<(n:Int):=by omega
   by_cases hz:r<0
   ·have HE:Hid (m<q):=HP.out.1 hz;go_wp2_with fail
    rw[Ol.out];refine cT 6 (by kernel_rfl) (by kernel_rfl) ?_;intro W nJ;rw[← nJ]at ME p7 BD yl y0 y1 y2 c0 c1 c2;simp only[List.take_succ_cons,List.take_zero,List.drop_succ_cons,List.drop_zero];clear nJ;have HX:=uh (oB.out W BD.out);repeat still_step
    refine wpStill_nil ?_;go_wp2_with (go_at_call 23;refine HX.out.mono ?_;rintro e w2 ⟨rfl,eD⟩)
    go_roundw
    case rel=>exact⟨m+1,b,by go_num,rfl,HE.out,hb,eY,ah p7.out eD⟩
    case measure=>simp[intOf];omega
   ·have HE:Hid (q≤m):=HP.out.2 hz;have hz':0≤r:=by omega
    go_wp2_with fail
    rw[Ol.out];refine cT 6 (by kernel_rfl) (by kernel_rfl) ?_;intro W nJ;rw[← nJ]at ME p7 BD yl y0 y1 y2 c0 c1 c2;simp only[List.take_succ_cons,List.take_zero,List.drop_succ_cons,List.drop_zero];clear nJ;have HX:=uh (oB.out W BD.out);repeat still_step
    refine wpStill_nil ?_;go_wp2_with (go_at_call 23;refine HX.out.mono ?_;rintro e w2 ⟨rfl,eD⟩)
    go_roundw
    case rel=>exact⟨a,m,rfl,rfl,ha,HE.out,by omega,ah p7.out eD⟩
    case measure=>simp[intOf];omega
  ·obtain rfl:a=q:=by omega
   obtain rfl:b=a:=by omega
   have cd:(0:Int)≤(b:Int):=by omega
   have HK:=uh (ey.out.later wS.out);by_cases dr:b<n
   ·have qB:(b:Int)<(n:Int):=by omega
    obtain⟨x,hx⟩:∃ x,x=L.getD b Pl.aN:=⟨_,rfl⟩
    rcases db HH.out.1 with⟨e0,_⟩|⟨p,o,c',hv,hp,_,aO⟩
    ·have:=HN.out;omega
    injection hv with g1 _ g3
    subst g1;subst g3;obtain⟨ax,cx,hg,fe⟩:=aO b (by have:=HN.out;omega);rw[← hx]at hg fe;have fg:=uh (aB hg hp kz.out);have fB:Hid (p<wr.heap.size):=zL hp kz.out.size;obtain⟨r,hr⟩:∃ r,r=dm x t:=⟨_,rfl⟩
    have oB:Hid (∀ W,Bel w W→Calls Tryz.prog 23 #[.agg #[.string x.kind,.string x.name,.slice ax x.lines.length cx],.agg #[.string t.kind,.string t.name,.slice none 0 0]] W fun e w'=>e=.returned (.int .i64 r)∧Bel W w'):=fun W _=>by rw[hr];exact xb _ _ _ _ _ _ W
    have HX:Hid (∀ X,Bel wr X→Calls Tryz.prog 23 #[.agg #[.string x.kind,.string x.name,.slice ax x.lines.length cx],.agg #[.string t.kind,.string t.name,.slice none 0 0]] X fun e w'=>e=.returned (.int .i64 r)∧Bel X w'):=fun X hX=>oB.out X (ah kz.out hX);have N3:Hid (R=decide (r=0)):=by show R=_;rw[HR.out,hr,hx];simp[dr]
    clear hr aO hg fe hx;go_upto_region 8 with fail
    by_cases hz:r=0
    ·have gf:Hid (R=true):=by show R=_;rw[N3.out,decide_eq_true hz]
     refine RY.aH wr zR (J6 p o c b n x t ax cx r) (zT _ _ _ _ _ _ _ _ _ _) (by kernel_rfl) (by kernel_rfl) (by kernel_rfl) (by kernel_rfl) ?_ ?_
     ·intro ii o' ho a X hX hk hd;have zb0:=HK.out.later hX;have zb0l:=zb0.lt;match ii,ho with
      |0,rfl|1,rfl=>
       exact RY.n (RY.p (.int .i64 (b:Int)) (by simp[execOp,go_sem,RY.K hk 9 (.int .i64 (b:Int))]))
      |2,rfl=>
       exact RY.n (RY.p (.int .i64 (n:Int)) (by simp[execOp,go_sem,RY.K hk 8 (.int .i64 (n:Int))]))
      |3,rfl=>
       exact RY.n (RY.p (.bool true) (by simp[execOp,go_sem,RY.E hd 1 36,RY.E hd 2 37,qB]))
      |4,rfl=>
       exact RY.n (RY.p (.bool true) (by simp[execOp,go_sem,RY.E hd 3 38]))
      |5,rfl=>
       exact RY.on hd 4 39 (RY.p (.func (.func 23) #[] #[]) (by simp[execOp,go_sem,RY.K hk 2 (.func (.func 23) #[] #[])]))
      |6,rfl=>
       exact RY.on hd 4 39 (RY.p (.slice (some ⟨p,o,none⟩) n c) (by simp[execOp,go_sem,RY.K hk 0 (.slice (some ⟨p,o,none⟩) n c)]))
      |7,rfl=>
       exact RY.on hd 4 39 (RY.p (.int .i64 (b:Int)) (by simp[execOp,go_sem,RY.K hk 9 (.int .i64 (b:Int))]))
      |8,rfl=>
       exact RY.on hd 4 39 (RY.p (.pointer (some ⟨p,o+b*3,none⟩)) (by simp[execOp,go_sem,RY.E hd 6 41,RY.E hd 7 42,cd,qB]))
      |9,rfl=>
       have gd:=hd 4 _ 39 rfl rfl ⟨⟨4,.guard⟩,by simp,rfl,rfl⟩;have v43:a.eval (.tmp 43)=.pointer (some ⟨p,o+b*3,none⟩):=hd 8 _ 43 rfl rfl ⟨⟨8,.data⟩,by simp,rfl,rfl⟩;exact Or.inl ⟨(RY.aj rfl rfl rfl gd).trans rfl,Or.inl ⟨_,X,ar 41 _ rfl p (o+b*3) v43 [.string x.kind,.string x.name,.slice ax x.lines.length cx] _ (aB fg.out fB.out hX) Tryz.underlying41 rfl (by kernel_rfl),zR,rfl⟩⟩
      |10,rfl=>
       have gd:=hd 4 _ 39 rfl rfl ⟨⟨4,.guard⟩,by simp,rfl,rfl⟩;have v4:a.eval (.tmp 4)=.pointer (some ⟨b0,0,none⟩):=(hk 4 (by kernel_rfl)).trans rfl;exact Or.inl ⟨(RY.aj rfl rfl rfl gd).trans rfl,Or.inl ⟨_,X,ar 41 _ rfl b0 0 v4 [.string t.kind,.string t.name,.slice none 0 0] _ zb0.at_ Tryz.underlying41 rfl (by kernel_rfl),zR,rfl⟩⟩
      |11,rfl=>
       have e40:=RY.E hd 5 40;have e44:=RY.E hd 9 44;have e45:=RY.E hd 10 45;refine RY.on hd 4 39 (.inr ⟨23,#[.agg #[.string x.kind,.string x.name,.slice ax x.lines.length cx],.agg #[.string t.kind,.string t.name,.slice none 0 0]],by simp[go_sem,e40,e44,e45],(HX.out X hX).mono ?_⟩);rintro e W' ⟨rfl,hb⟩;exact⟨_,rfl,hb,rfl⟩
      |12,rfl=>
       exact RY.on hd 4 39 (RY.p (.bool true) (by simp[execOp,go_sem,RY.E hd 11 46,hz]))
      |13,rfl=>
       exact RY.n (RY.p (.bool true) (by simp[execOp,go_sem,RY.E hd 4 39,RY.E hd 12 47]))
      |14,rfl=>
       exact RY.n (RY.p (.int .i64 (b:Int)) (by simp[execOp,go_sem,RY.E hd 0 35]))
      |15,rfl=>
       exact RY.n (RY.p (.bool true) (by simp[execOp,go_sem,RY.E hd 13 48]))
      |n+16,ho=>simp at ho
     intro X vs hX bg;have q6:vs 6=_:=bg 14 _ 6 rfl rfl;have q7:vs 7=_:=bg 15 _ 7 rfl rfl;simp only[RY.aC,Act.put,List.setIfInBounds_toArray,List.set_cons_zero,List.set_cons_succ];rw[q6,q7];generalize vs 35=lN,vs 36=lI,vs 37=lR,vs 38=nu,vs 39=nS,vs 40=s40,vs 41=s41,vs 42=s42,vs 43=s43,vs 44=s44,vs 45=s45,vs 46=s46,vs 47=s47,vs 48=s48;clear bg q6 q7;go_wp2;go_ret2;refine⟨Pl.me gf.out.symm,ah kz.out hX⟩
    ·have gf:Hid (R=false):=by show R=_;rw[N3.out,decide_eq_false hz]
     refine RY.aH wr zR (KM p o c b n x t ax cx r) (Am _ _ _ _ _ _ _ _ _ _) (by kernel_rfl) (by kernel_rfl) (by kernel_rfl) (by kernel_rfl) ?_ ?_
     ·intro ii o' ho a X hX hk hd;have zb0:=HK.out.later hX;have zb0l:=zb0.lt;match ii,ho with
      |0,rfl|1,rfl=>
       exact RY.n (RY.p (.int .i64 (b:Int)) (by simp[execOp,go_sem,RY.K hk 9 (.int .i64 (b:Int))]))
      |2,rfl=>
       exact RY.n (RY.p (.int .i64 (n:Int)) (by simp[execOp,go_sem,RY.K hk 8 (.int .i64 (n:Int))]))
      |3,rfl=>
       exact RY.n (RY.p (.bool true) (by simp[execOp,go_sem,RY.E hd 1 36,RY.E hd 2 37,qB]))
      |4,rfl=>
       exact RY.n (RY.p (.bool true) (by simp[execOp,go_sem,RY.E hd 3 38]))
      |5,rfl=>
       exact RY.on hd 4 39 (RY.p (.func (.func 23) #[] #[]) (by simp[execOp,go_sem,RY.K hk 2 (.func (.func 23) #[] #[])]))
      |6,rfl=>
       exact RY.on hd 4 39 (RY.p (.slice (some ⟨p,o,none⟩) n c) (by simp[execOp,go_sem,RY.K hk 0 (.slice (some ⟨p,o,none⟩) n c)]))
      |7,rfl=>
       exact RY.on hd 4 39 (RY.p (.int .i64 (b:Int)) (by simp[execOp,go_sem,RY.K hk 9 (.int .i64 (b:Int))]))
      |8,rfl=>
       exact RY.on hd 4 39 (RY.p (.pointer (some ⟨p,o+b*3,none⟩)) (by simp[execOp,go_sem,RY.E hd 6 41,RY.E hd 7 42,cd,qB]))
      |9,rfl=>
       have gd:=hd 4 _ 39 rfl rfl ⟨⟨4,.guard⟩,by simp,rfl,rfl⟩;have v43:a.eval (.tmp 43)=.pointer (some ⟨p,o+b*3,none⟩):=hd 8 _ 43 rfl rfl ⟨⟨8,.data⟩,by simp,rfl,rfl⟩;exact Or.inl ⟨(RY.aj rfl rfl rfl gd).trans rfl,Or.inl ⟨_,X,ar 41 _ rfl p (o+b*3) v43 [.string x.kind,.string x.name,.slice ax x.lines.length cx] _ (aB fg.out fB.out hX) Tryz.underlying41 rfl (by kernel_rfl),zR,rfl⟩⟩
      |10,rfl=>
       have gd:=hd 4 _ 39 rfl rfl ⟨⟨4,.guard⟩,by simp,rfl,rfl⟩;have v4:a.eval (.tmp 4)=.pointer (some ⟨b0,0,none⟩):=(hk 4 (by kernel_rfl)).trans rfl;exact Or.inl ⟨(RY.aj rfl rfl rfl gd).trans rfl,Or.inl ⟨_,X,ar 41 _ rfl b0 0 v4 [.string t.kind,.string t.name,.slice none 0 0] _ zb0.at_ Tryz.underlying41 rfl (by kernel_rfl),zR,rfl⟩⟩
      |11,rfl=>
       have e40:=RY.E hd 5 40;have e44:=RY.E hd 9 44;have e45:=RY.E hd 10 45;refine RY.on hd 4 39 (.inr ⟨23,#[.agg #[.string x.kind,.string x.name,.slice ax x.lines.length cx],.agg #[.string t.kind,.string t.name,.slice none 0 0]],by simp[go_sem,e40,e44,e45],(HX.out X hX).mono ?_⟩);rintro e W' ⟨rfl,hb⟩;exact⟨_,rfl,hb,rfl⟩
      |12,rfl=>
       exact RY.on hd 4 39 (RY.p (.bool false) (by simp[execOp,go_sem,RY.E hd 11 46,hz]))
      |13,rfl=>
       exact RY.n (RY.p (.bool false) (by simp[execOp,go_sem,RY.E hd 4 39,RY.E hd 12 47]))
      |14,rfl=>
       exact RY.n (RY.p (.int .i64 (b:Int)) (by simp[execOp,go_sem,RY.E hd 0 35]))
      |15,rfl=>
       exact RY.n (RY.p (.bool false) (by simp[execOp,go_sem,RY.E hd 13 48]))
      |n+16,ho=>simp at ho
     intro X vs hX bg;have q6:vs 6=_:=bg 14 _ 6 rfl rfl;have q7:vs 7=_:=bg 15 _ 7 rfl rfl;simp only[RY.aC,Act.put,List.setIfInBounds_toArray,List.set_cons_zero,List.set_cons_succ];rw[q6,q7];generalize vs 35=lN,vs 36=lI,vs 37=lR,vs 38=nu,vs 39=nS,vs 40=s40,vs 41=s41,vs 42=s42,vs 43=s43,vs 44=s44,vs 45=s45,vs 46=s46,vs 47=s47,vs 48=s48;clear bg q6 q7;go_wp2;go_ret2;refine⟨Pl.me gf.out.symm,ah kz.out hX⟩
   ·have qB:¬ ((b:Int)<(n:Int)):=by omega
    have gf:Hid (R=false):=by show R=_;rw[HR.out];simp[dr]
    go_upto_region 8 with fail
    refine RY.aH wr zR (Kf b n) (Ba _ _) (by kernel_rfl) (by kernel_rfl) (by kernel_rfl) (by kernel_rfl) ?_ ?_
    ·intro ii o' ho a X hX hk hd;have zb0:=HK.out.later hX;have zb0l:=zb0.lt;match ii,ho with
     |0,rfl|1,rfl=>
      exact RY.n (RY.p (.int .i64 (b:Int)) (by simp[execOp,go_sem,RY.K hk 9 (.int .i64 (b:Int))]))
     |2,rfl=>
      exact RY.n (RY.p (.int .i64 (n:Int)) (by simp[execOp,go_sem,RY.K hk 8 (.int .i64 (n:Int))]))
     |3,rfl=>
      exact RY.n (RY.p (.bool false) (by simp[execOp,go_sem,RY.E hd 1 36,RY.E hd 2 37,qB]))
     |4,rfl=>
      exact RY.n (RY.p (.bool false) (by simp[execOp,go_sem,RY.E hd 3 38]))
     |5,rfl|6,rfl|7,rfl|8,rfl|9,rfl|10,rfl|11,rfl|12,rfl=>
      exact RY.off hd 4 39
     |13,rfl=>
      exact RY.n (RY.p (.bool false) (by simp[execOp,go_sem,RY.E hd 4 39,RY.E hd 12 47]))
     |14,rfl=>
      exact RY.n (RY.p (.int .i64 (b:Int)) (by simp[execOp,go_sem,RY.E hd 0 35]))
     |15,rfl=>
      exact RY.n (RY.p (.bool false) (by simp[execOp,go_sem,RY.E hd 13 48]))
     |n+16,ho=>simp at ho
    intro X vs hX bg;have q6:vs 6=_:=bg 14 _ 6 rfl rfl;have q7:vs 7=_:=bg 15 _ 7 rfl rfl;simp only[RY.aC,Act.put,List.setIfInBounds_toArray,List.set_cons_zero,List.set_cons_succ];rw[q6,q7];generalize vs 35=lN,vs 36=lI,vs 37=lR,vs 38=nu,vs 39=nS,vs 40=s40,vs 41=s41,vs 42=s42,vs 43=s43,vs 44=s44,vs 45=s45,vs 46=s46,vs 47=s47,vs 48=s48;clear bg q6 q7;go_wp2;go_ret2;refine⟨Pl.me gf.out.symm,ah kz.out hX⟩
def Km (p:Nat) (o:Nat) (c:Nat) (b:Nat) (n:Nat) (l:List Pl.Ru) (va:Option Addr) (vc:Nat) (x:Pl.Ln) (t:Pl.Ln) (ax:Option Addr) (at_:Option Addr) (cx:Nat) (ct:Nat) (r:Int):Nat→Value→World→Prop
 |0,vv,_|1,vv,_|7,vv,_|14,vv,_=>vv=.int .i64 (b:Int)
 |2,vv,_=>vv=.int .i64 (n:Int)
 |3,vv,_|4,vv,_|12,vv,_|13,vv,_|15,vv,_=>vv=.bool true
 |5,vv,_=>vv=.func (.func 49) #[.agg #[.slice va l.length vc]] #[]
 |6,vv,_=>vv=.slice (some ⟨p,o,none⟩) n c
 |8,vv,_=>vv=.pointer (some ⟨p,o+b*2,none⟩)
 |9,vv,_=>vv=.agg #[.string x.key,.slice ax x.ws.length cx]
 |10,vv,_=>vv=.agg #[.string t.key,.slice at_ t.ws.length ct]
 |11,vv,_=>vv=.int .i64 r
 |_,_,_=>True
theorem AV (p:Nat) (o:Nat) (c:Nat) (b:Nat) (n:Nat) (l:List Pl.Ru) (va:Option Addr) (vc:Nat) (x:Pl.Ln) (t:Pl.Ln) (ax:Option Addr) (at_:Option Addr) (cx:Nat) (ct:Nat) (r:Int):∀ jj vv W W',Bel W W'→Km p o c b n l va vc x t ax at_ cx ct r jj vv W→Km p o c b n l va vc x t ax at_ cx ct r jj vv W':=by
 intro jj vv W W' hb h;match jj with
 |0|1|2|3|4|5|6|7|8|9|10|11|12|13|14|15=>exact h
 |n+16=>exact trivial
def Ke (p:Nat) (o:Nat) (c:Nat) (b:Nat) (n:Nat) (l:List Pl.Ru) (va:Option Addr) (vc:Nat) (x:Pl.Ln) (t:Pl.Ln) (ax:Option Addr) (at_:Option Addr) (cx:Nat) (ct:Nat) (r:Int):Nat→Value→World→Prop
 |0,vv,_|1,vv,_|7,vv,_|14,vv,_=>vv=.int .i64 (b:Int)
 |2,vv,_=>vv=.int .i64 (n:Int)
 |3,vv,_|4,vv,_=>vv=.bool true
 |5,vv,_=>vv=.func (.func 49) #[.agg #[.slice va l.length vc]] #[]
 |6,vv,_=>vv=.slice (some ⟨p,o,none⟩) n c
 |8,vv,_=>vv=.pointer (some ⟨p,o+b*2,none⟩)
 |9,vv,_=>vv=.agg #[.string x.key,.slice ax x.ws.length cx]
 |10,vv,_=>vv=.agg #[.string t.key,.slice at_ t.ws.length ct]
 |11,vv,_=>vv=.int .i64 r
 |12,vv,_|13,vv,_|15,vv,_=>vv=.bool false
 |_,_,_=>True
theorem Ac (p:Nat) (o:Nat) (c:Nat) (b:Nat) (n:Nat) (l:List Pl.Ru) (va:Option Addr) (vc:Nat) (x:Pl.Ln) (t:Pl.Ln) (ax:Option Addr) (at_:Option Addr) (cx:Nat) (ct:Nat) (r:Int):∀ jj vv W W',Bel W W'→Ke p o c b n l va vc x t ax at_ cx ct r jj vv W→Ke p o c b n l va vc x t ax at_ cx ct r jj vv W':=by
 intro jj vv W W' hb h;match jj with
 |0|1|2|3|4|5|6|7|8|9|10|11|12|13|14|15=>exact h
 |n+16=>exact trivial
def Kb (b:Nat) (n:Nat):Nat→Value→World→Prop
 |0,vv,_|1,vv,_|14,vv,_=>vv=.int .i64 (b:Int)
 |2,vv,_=>vv=.int .i64 (n:Int)
 |3,vv,_|4,vv,_|13,vv,_|15,vv,_=>vv=.bool false
 |5,vv,_|6,vv,_|7,vv,_|8,vv,_|9,vv,_|10,vv,_|11,vv,_|12,vv,_=>vv=undef
 |_,_,_=>True
theorem Ag (b:Nat) (n:Nat):∀ jj vv W W',Bel W W'→Kb b n jj vv W→Kb b n jj vv W':=by
 intro jj vv W W' hb h;match jj with
 |0|1|2|3|4|5|6|7|8|9|10|11|12|13|14|15=>exact h
 |n+16=>exact trivial
theorem NL (l:List Pl.Ru) (va:Option Addr) (vc:Nat) (Bq:l.length≤100) (L:List Pl.Ln) (v:Value) (t:Pl.Ln) (at_:Option Addr) (ct:Nat) (q:Nat) (w:World) (wL:Raw w [.row 96 aF] [cQ l] [.slice va l.length vc]) (h:Raw w bF [bT L] [v]) (ht:Raw w bB [.row t.ws.length (txD t.ws)] [.slice at_ t.ws.length ct]) (zG:L.length≤1048576) (hq:q≤L.length) (h1:∀ i,i<q→dp l (L.getD i Pl.aK) t<0) (h2:∀ i,q≤i→i<L.length→0≤dp l (L.getD i Pl.aK) t):
  Calls Tryz.prog 103 #[v,.agg #[.string t.key,.slice at_ t.ws.length ct],.func (.func 49) #[.agg #[.slice va l.length vc]] #[]] w fun e w'=>e=.returned (.tuple #[.int .i64 (q:Nat),.bool (decide (q<L.length)&&decide (dp l (L.getD q Pl.aK) t=0))])∧Bel w w':=by
 have HH:=uh (And.intro h (And.intro h1 h2));have nC:=uh wL;have R4:=uh ht;obtain⟨a0,c,ev⟩:=h.bm;subst ev;obtain⟨R,hR⟩:∃ R,R=(decide (q<L.length)&&decide (dp l (L.getD q Pl.aK) t=0)):=⟨_,rfl⟩
 have HR:Hid (R=(decide (q<L.length)&&decide (dp l (L.getD q Pl.aK) t=0))):=hR;rw[← hR];clear h h1 h2 hR wL ht;obtain⟨wa,aZ⟩:∃ wa,wa=w.alloc (.cells #[.string t.key,.slice at_ t.ws.length ct] 46):=⟨_,rfl⟩
 obtain⟨b0,ym⟩:∃ b0,b0=w.heap.size:=⟨_,rfl⟩
 have vZ:Hid (Bel w wa):=by show Below _ _ _;rw[aZ];exact ae zR _
 have ey:Hid (aS wa b0 [.string t.key,.slice at_ t.ws.length ct]):=by show aS _ _ _;rw[aZ,ym];exact aS.new w #[.string t.key,.slice at_ t.ws.length ct] _ _ rfl
 obtain⟨n,hn⟩:∃ n,n=L.length:=⟨_,rfl⟩
 have HN:=uh hn;rw[← hn]at HR hq zG;rw[← hn];clear hn;go_enter Tryz.func103,Tryz.ntmps103
 go_upto_region 1 with fail
 rw[← aZ,← ym];clear aZ ym;go_wp2_with fail
 go_loopw [9,10] (fun i j wr=>∃ a b:Nat,i=.int .i64 (a:Nat)∧j=.int .i64 (b:Nat)∧a≤q∧q≤b∧b≤n∧Bel wa wr) (fun i j _=>(intOf j).toNat - (intOf i).toNat)
 case atStart=>exact⟨0,n,rfl,rfl,zN,hq,zE,zR⟩
 case round=>
  obtain⟨a,b,rfl,rfl,ha,hb,eY,hW⟩:=hrel;have kz:Hid (Bel w wr):=ah vZ.out hW;have wS:=uh hW;clear hW;by_cases bd:a<b
  ·obtain⟨m,hm⟩:∃ m,m=(a+b) / 2:=⟨_,rfl⟩
   have ns:a≤m:=by omega
   have tL:m<b:=by omega
   obtain⟨x,hx⟩:∃ x,x=L.getD m Pl.aK:=⟨_,rfl⟩
   have p7:=uh (wS.out.drew);have BD:=uh (kz.out.drew);have y0:wr.drew.cell? ⟨b0,0,none⟩=some (.string t.key):=(ey.out.later wS.out.drew).get 0 _ rfl;have y1:wr.drew.cell? ⟨b0,1,none⟩=some (.slice at_ t.ws.length ct):=(ey.out.later wS.out.drew).get 1 _ rfl;have yl:=(ey.out.later wS.out.drew).lt;rcases cE HH.out.1 with⟨e0,_⟩|⟨p,o,c',hv,hp,_,aO⟩
   ·have:=HN.out;omega
   injection hv with g1 _ g3
   subst g1;subst g3;obtain⟨ax,cx,hg,fe⟩:=aO m (by have:=HN.out;omega);rw[← hx]at hg fe;have fw:=aB hg hp kz.out.drew;have ME:p<wr.drew.heap.size:=zL hp kz.out.drew.size;have c0:wr.drew.cell? ⟨p,o+m*2,none⟩=some (.string x.key):=aE fw 0 _ rfl;have c1:wr.drew.cell? ⟨p,o+m*2+1,none⟩=some (.slice ax x.ws.length cx):=aE fw 1 _ rfl;obtain⟨r,hr⟩:∃ r,r=dp l x t:=⟨_,rfl⟩
   have oB:Hid (∀ W,Bel w W→Calls Tryz.prog 49 #[.agg #[.slice va l.length vc],.agg #[.string x.key,.slice ax x.ws.length cx],.agg #[.string t.key,.slice at_ t.ws.length ct]] W fun e w'=>e=.returned (.int .i64 r)∧Bel W w'):=fun W hb=>by
     rw[hr];exact xq l va vc x t ax at_ cx ct W Bq (nC.out.later hb) (fe.later hb) (R4.out.later hb)
   have HP:Hid ((r<0→m<q)∧(¬ r<0→q≤m)):=by
    refine⟨fun hz=> ?_,fun hz=> ?_⟩
    ·refine Nat.lt_of_not_le fun hh=> ?_;have:=HH.out.2.2 m hh (by have:=HN.out;omega);rw[← hx,← hr]at this;omega
    ·refine Nat.le_of_not_lt fun hh=> ?_;have:=HH.out.2.1 m hh;rw[← hx,← hr]at this;exact hz this
   have Ol:Hid (((a:Int)+(b:Int)) / 2=(m:Int)):=by show _=_;omega
   clear hr aO hg fw fe hx hm;have oJ:(0:Int)≤(m:Int):=by omega
   have wN:(m:Int)<(n:Int):=by omega
   by_cases hz:r<0
   ·have HE:Hid (m<q):=HP.out.1 hz;go_wp2_with fail
    rw[Ol.out];refine cT 6 (by kernel_rfl) (by kernel_rfl) ?_;intro W nJ;rw[← nJ]at ME p7 BD yl y0 y1 c0 c1;simp only[List.take_succ_cons,List.take_zero,List.drop_succ_cons,List.drop_zero];clear nJ;have HX:=uh (oB.out W BD.out);repeat still_step
    refine wpStill_nil ?_;go_wp2_with (go_at_call 49;refine HX.out.mono ?_;rintro e w2 ⟨rfl,eD⟩)
    go_roundw
    case rel=>exact⟨m+1,b,by go_num,rfl,HE.out,hb,eY,ah p7.out eD⟩
    case measure=>simp[intOf];omega
   ·have HE:Hid (q≤m):=HP.out.2 hz;have hz':0≤r:=by omega
    go_wp2_with fail
    rw[Ol.out];refine cT 6 (by kernel_rfl) (by kernel_rfl) ?_;intro W nJ;rw[← nJ]at ME p7 BD yl y0 y1 c0 c1;simp only[List.take_succ_cons,List.take_zero,List.drop_succ_cons,List.drop_zero];clear nJ;have HX:=uh (oB.out W BD.out);repeat still_step
    refine wpStill_nil ?_;go_wp2_with (go_at_call 49;refine HX.out.mono ?_;rintro e w2 ⟨rfl,eD⟩)
    go_roundw
    case rel=>exact⟨a,m,rfl,rfl,ha,HE.out,by omega,ah p7.out eD⟩
    case measure=>simp[intOf];omega
  ·obtain rfl:a=q:=by omega
   obtain rfl:b=a:=by omega
   have cd:(0:Int)≤(b:Int):=by omega
   have HK:=uh (ey.out.later wS.out);by_cases dr:b<n
   ·have qB:(b:Int)<(n:Int):=by omega
    obtain⟨x,hx⟩:∃ x,x=L.getD b Pl.aK:=⟨_,rfl⟩
    rcases cE HH.out.1 with⟨e0,_⟩|⟨p,o,c',hv,hp,_,aO⟩
    ·have:=HN.out;omega
    injection hv with g1 _ g3
    subst g1;subst g3;obtain⟨ax,cx,hg,fe⟩:=aO b (by have:=HN.out;omega);rw[← hx]at hg fe;have fg:=uh (aB hg hp kz.out);have fB:Hid (p<wr.heap.size):=zL hp kz.out.size;obtain⟨r,hr⟩:∃ r,r=dp l x t:=⟨_,rfl⟩
    have oB:Hid (∀ W,Bel w W→Calls Tryz.prog 49 #[.agg #[.slice va l.length vc],.agg #[.string x.key,.slice ax x.ws.length cx],.agg #[.string t.key,.slice at_ t.ws.length ct]] W fun e w'=>e=.returned (.int .i64 r)∧Bel W w'):=fun W hb=>by
     rw[hr];exact xq l va vc x t ax at_ cx ct W Bq (nC.out.later hb) (fe.later hb) (R4.out.later hb)
    have HX:Hid (∀ X,Bel wr X→Calls Tryz.prog 49 #[.agg #[.slice va l.length vc],.agg #[.string x.key,.slice ax x.ws.length cx],.agg #[.string t.key,.slice at_ t.ws.length ct]] X fun e w'=>e=.returned (.int .i64 r)∧Bel X w'):=fun X hX=>oB.out X (ah kz.out hX);have N3:Hid (R=decide (r=0)):=by show R=_;rw[HR.out,hr,hx];simp[dr]
    clear hr aO hg fe hx;go_upto_region 8 with fail
    by_cases hz:r=0
    ·have gf:Hid (R=true):=by show R=_;rw[N3.out,decide_eq_true hz]
     refine RY.aH wr zR (Km p o c b n l va vc x t ax at_ cx ct r) (AV _ _ _ _ _ _ _ _ _ _ _ _ _ _ _) (by kernel_rfl) (by kernel_rfl) (by kernel_rfl) (by kernel_rfl) ?_ ?_
     ·intro ii o' ho a X hX hk hd;have zb0:=HK.out.later hX;have zb0l:=zb0.lt;match ii,ho with
      |0,rfl|1,rfl=>
       exact RY.n (RY.p (.int .i64 (b:Int)) (by simp[execOp,go_sem,RY.K hk 9 (.int .i64 (b:Int))]))
      |2,rfl=>
       exact RY.n (RY.p (.int .i64 (n:Int)) (by simp[execOp,go_sem,RY.K hk 8 (.int .i64 (n:Int))]))
      |3,rfl=>
       exact RY.n (RY.p (.bool true) (by simp[execOp,go_sem,RY.E hd 1 36,RY.E hd 2 37,qB]))
      |4,rfl=>
       exact RY.n (RY.p (.bool true) (by simp[execOp,go_sem,RY.E hd 3 38]))
      |5,rfl=>
       exact RY.on hd 4 39 (RY.p (.func (.func 49) #[.agg #[.slice va l.length vc]] #[]) (by simp[execOp,go_sem,RY.K hk 2 (.func (.func 49) #[.agg #[.slice va l.length vc]] #[])]))
      |6,rfl=>
       exact RY.on hd 4 39 (RY.p (.slice (some ⟨p,o,none⟩) n c) (by simp[execOp,go_sem,RY.K hk 0 (.slice (some ⟨p,o,none⟩) n c)]))
      |7,rfl=>
       exact RY.on hd 4 39 (RY.p (.int .i64 (b:Int)) (by simp[execOp,go_sem,RY.K hk 9 (.int .i64 (b:Int))]))
      |8,rfl=>
       exact RY.on hd 4 39 (RY.p (.pointer (some ⟨p,o+b*2,none⟩)) (by simp[execOp,go_sem,RY.E hd 6 41,RY.E hd 7 42,cd,qB]))
      |9,rfl=>
       have gd:=hd 4 _ 39 rfl rfl ⟨⟨4,.guard⟩,by simp,rfl,rfl⟩;have v43:a.eval (.tmp 43)=.pointer (some ⟨p,o+b*2,none⟩):=hd 8 _ 43 rfl rfl ⟨⟨8,.data⟩,by simp,rfl,rfl⟩;exact Or.inl ⟨(RY.aj rfl rfl rfl gd).trans rfl,Or.inl ⟨_,X,ar 46 _ rfl p (o+b*2) v43 [.string x.key,.slice ax x.ws.length cx] _ (aB fg.out fB.out hX) Tryz.underlying46 rfl (by kernel_rfl),zR,rfl⟩⟩
      |10,rfl=>
       have gd:=hd 4 _ 39 rfl rfl ⟨⟨4,.guard⟩,by simp,rfl,rfl⟩;have v4:a.eval (.tmp 4)=.pointer (some ⟨b0,0,none⟩):=(hk 4 (by kernel_rfl)).trans rfl;exact Or.inl ⟨(RY.aj rfl rfl rfl gd).trans rfl,Or.inl ⟨_,X,ar 46 _ rfl b0 0 v4 [.string t.key,.slice at_ t.ws.length ct] _ zb0.at_ Tryz.underlying46 rfl (by kernel_rfl),zR,rfl⟩⟩
      |11,rfl=>
       have e40:=RY.E hd 5 40;have e44:=RY.E hd 9 44;have e45:=RY.E hd 10 45;refine RY.on hd 4 39 (.inr ⟨49,#[.agg #[.slice va l.length vc],.agg #[.string x.key,.slice ax x.ws.length cx],.agg #[.string t.key,.slice at_ t.ws.length ct]],by simp[go_sem,e40,e44,e45],(HX.out X hX).mono ?_⟩);rintro e W' ⟨rfl,hb⟩;exact⟨_,rfl,hb,rfl⟩
      |12,rfl=>
       exact RY.on hd 4 39 (RY.p (.bool true) (by simp[execOp,go_sem,RY.E hd 11 46,hz]))
      |13,rfl=>
       exact RY.n (RY.p (.bool true) (by simp[execOp,go_sem,RY.E hd 4 39,RY.E hd 12 47]))
      |14,rfl=>
       exact RY.n (RY.p (.int .i64 (b:Int)) (by simp[execOp,go_sem,RY.E hd 0 35]))
      |15,rfl=>
       exact RY.n (RY.p (.bool true) (by simp[execOp,go_sem,RY.E hd 13 48]))
      |n+16,ho=>simp at ho
     intro X vs hX bg;have q6:vs 6=_:=bg 14 _ 6 rfl rfl;have q7:vs 7=_:=bg 15 _ 7 rfl rfl;simp only[RY.aC,Act.put,List.setIfInBounds_toArray,List.set_cons_zero,List.set_cons_succ];rw[q6,q7];generalize vs 35=lN,vs 36=lI,vs 37=lR,vs 38=nu,vs 39=nS,vs 40=s40,vs 41=s41,vs 42=s42,vs 43=s43,vs 44=s44,vs 45=s45,vs 46=s46,vs 47=s47,vs 48=s48;clear bg q6 q7;go_wp2;go_ret2;refine⟨Pl.me gf.out.symm,ah kz.out hX⟩
    ·have gf:Hid (R=false):=by show R=_;rw[N3.out,decide_eq_false hz]
     refine RY.aH wr zR (Ke p o c b n l va vc x t ax at_ cx ct r) (Ac _ _ _ _ _ _ _ _ _ _ _ _ _ _ _) (by kernel_rfl) (by kernel_rfl) (by kernel_rfl) (by kernel_rfl) ?_ ?_
     ·intro ii o' ho a X hX hk hd;have zb0:=HK.out.later hX;have zb0l:=zb0.lt;match ii,ho with
      |0,rfl|1,rfl=>
       exact RY.n (RY.p (.int .i64 (b:Int)) (by simp[execOp,go_sem,RY.K hk 9 (.int .i64 (b:Int))]))
      |2,rfl=>
       exact RY.n (RY.p (.int .i64 (n:Int)) (by simp[execOp,go_sem,RY.K hk 8 (.int .i64 (n:Int))]))
      |3,rfl=>
       exact RY.n (RY.p (.bool true) (by simp[execOp,go_sem,RY.E hd 1 36,RY.E hd 2 37,qB]))
      |4,rfl=>
       exact RY.n (RY.p (.bool true) (by simp[execOp,go_sem,RY.E hd 3 38]))
      |5,rfl=>
       exact RY.on hd 4 39 (RY.p (.func (.func 49) #[.agg #[.slice va l.length vc]] #[]) (by simp[execOp,go_sem,RY.K hk 2 (.func (.func 49) #[.agg #[.slice va l.length vc]] #[])]))
      |6,rfl=>
       exact RY.on hd 4 39 (RY.p (.slice (some ⟨p,o,none⟩) n c) (by simp[execOp,go_sem,RY.K hk 0 (.slice (some ⟨p,o,none⟩) n c)]))
      |7,rfl=>
       exact RY.on hd 4 39 (RY.p (.int .i64 (b:Int)) (by simp[execOp,go_sem,RY.K hk 9 (.int .i64 (b:Int))]))
      |8,rfl=>
       exact RY.on hd 4 39 (RY.p (.pointer (some ⟨p,o+b*2,none⟩)) (by simp[execOp,go_sem,RY.E hd 6 41,RY.E hd 7 42,cd,qB]))
      |9,rfl=>
       have gd:=hd 4 _ 39 rfl rfl ⟨⟨4,.guard⟩,by simp,rfl,rfl⟩;have v43:a.eval (.tmp 43)=.pointer (some ⟨p,o+b*2,none⟩):=hd 8 _ 43 rfl rfl ⟨⟨8,.data⟩,by simp,rfl,rfl⟩;exact Or.inl ⟨(RY.aj rfl rfl rfl gd).trans rfl,Or.inl ⟨_,X,ar 46 _ rfl p (o+b*2) v43 [.string x.key,.slice ax x.ws.length cx] _ (aB fg.out fB.out hX) Tryz.underlying46 rfl (by kernel_rfl),zR,rfl⟩⟩
      |10,rfl=>
       have gd:=hd 4 _ 39 rfl rfl ⟨⟨4,.guard⟩,by simp,rfl,rfl⟩;have v4:a.eval (.tmp 4)=.pointer (some ⟨b0,0,none⟩):=(hk 4 (by kernel_rfl)).trans rfl;exact Or.inl ⟨(RY.aj rfl rfl rfl gd).trans rfl,Or.inl ⟨_,X,ar 46 _ rfl b0 0 v4 [.string t.key,.slice at_ t.ws.length ct] _ zb0.at_ Tryz.underlying46 rfl (by kernel_rfl),zR,rfl⟩⟩
      |11,rfl=>
       have e40:=RY.E hd 5 40;have e44:=RY.E hd 9 44;have e45:=RY.E hd 10 45;refine RY.on hd 4 39 (.inr ⟨49,#[.agg #[.slice va l.length vc],.agg #[.string x.key,.slice ax x.ws.length cx],.agg #[.string t.key,.slice at_ t.ws.length ct]],by simp[go_sem,e40,e44,e45],(HX.out X hX).mono ?_⟩);rintro e W' ⟨rfl,hb⟩;exact⟨_,rfl,hb,rfl⟩
      |12,rfl=>
       exact RY.on hd 4 39 (RY.p (.bool false) (by simp[execOp,go_sem,RY.E hd 11 46,hz]))
      |13,rfl=>
       exact RY.n (RY.p (.bool false) (by simp[execOp,go_sem,RY.E hd 4 39,RY.E hd 12 47]))
      |14,rfl=>
       exact RY.n (RY.p (.int .i64 (b:Int)) (by simp[execOp,go_sem,RY.E hd 0 35]))
      |15,rfl=>
       exact RY.n (RY.p (.bool false) (by simp[execOp,go_sem,RY.E hd 13 48]))
      |n+16,ho=>simp at ho
     intro X vs hX bg;have q6:vs 6=_:=bg 14 _ 6 rfl rfl;have q7:vs 7=_:=bg 15 _ 7 rfl rfl;simp only[RY.aC,Act.put,List.setIfInBounds_toArray,List.set_cons_zero,List.set_cons_succ];rw[q6,q7];generalize vs 35=lN,vs 36=lI,vs 37=lR,vs 38=nu,vs 39=nS,vs 40=s40,vs 41=s41,vs 42=s42,vs 43=s43,vs 44=s44,vs 45=s45,vs 46=s46,vs 47=s47,vs 48=s48;clear bg q6 q7;go_wp2;go_ret2;refine⟨Pl.me gf.out.symm,ah kz.out hX⟩
   ·have qB:¬ ((b:Int)<(n:Int)):=by omega
    have gf:Hid (R=false):=by show R=_;rw[HR.out];simp[dr]
    go_upto_region 8 with fail
    refine RY.aH wr zR (Kb b n) (Ag _ _) (by kernel_rfl) (by kernel_rfl) (by kernel_rfl) (by kernel_rfl) ?_ ?_
    ·intro ii o' ho a X hX hk hd;have zb0:=HK.out.later hX;have zb0l:=zb0.lt;match ii,ho with
     |0,rfl|1,rfl=>
      exact RY.n (RY.p (.int .i64 (b:Int)) (by simp[execOp,go_sem,RY.K hk 9 (.int .i64 (b:Int))]))
     |2,rfl=>
      exact RY.n (RY.p (.int .i64 (n:Int)) (by simp[execOp,go_sem,RY.K hk 8 (.int .i64 (n:Int))]))
     |3,rfl=>
      exact RY.n (RY.p (.bool false) (by simp[execOp,go_sem,RY.E hd 1 36,RY.E hd 2 37,qB]))
     |4,rfl=>
      exact RY.n (RY.p (.bool false) (by simp[execOp,go_sem,RY.E hd 3 38]))
     |5,rfl|6,rfl|7,rfl|8,rfl|9,rfl|10,rfl|11,rfl|12,rfl=>
      exact RY.off hd 4 39
     |13,rfl=>
      exact RY.n (RY.p (.bool false) (by simp[execOp,go_sem,RY.E hd 4 39,RY.E hd 12 47]))
     |14,rfl=>
      exact RY.n (RY.p (.int .i64 (b:Int)) (by simp[execOp,go_sem,RY.E hd 0 35]))
     |15,rfl=>
      exact RY.n (RY.p (.bool false) (by simp[execOp,go_sem,RY.E hd 13 48]))
     |n+16,ho=>simp at ho
    intro X vs hX bg;have q6:vs 6=_:=bg 14 _ 6 rfl rfl;have q7:vs 7=_:=bg 15 _ 7 rfl rfl;simp only[RY.aC,Act.put,List.setIfInBounds_toArray,List.set_cons_zero,List.set_cons_succ];rw[q6,q7];generalize vs 35=lN,vs 36=lI,vs 37=lR,vs 38=nu,vs 39=nS,vs 40=s40,vs 41=s41,vs 42=s42,vs 43=s43,vs 44=s44,vs 45=s45,vs 46=s46,vs 47=s47,vs 48=s48;clear bg q6 q7;go_wp2;go_ret2;refine⟨Pl.me gf.out.symm,ah kz.out hX⟩
end Go.Proofs.YtopjjknojnfhmaaGreatDoor
