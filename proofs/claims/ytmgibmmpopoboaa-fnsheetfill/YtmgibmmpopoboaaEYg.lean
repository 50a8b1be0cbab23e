import Derived.Test.YtmgibmmpopoboaaEGo
import Derived.Test.YtmgibmmpopoboaaEYb
import Derived.Test.YtmgibmmpopoboaaEYp
import Derived.Test.YtmgibmmpopoboaaEIv
import Derived.Test.YtmgibmmpopoboaaEGn
namespace Go.Proofs.Ytmgibmmpopoboaa
set_option maxRecDepth 8000
set_option maxHeartbeats 40000000
open Go.RowKit Go.Deep
theorem Pl.tH {n:Nat} {a b:Bool} (h:a=b):Ending.returned (.tuple #[.int .i64 (n:Nat),.bool a])=.returned (.tuple #[.int .i64 (n:Nat),.bool b]):=by rw[h]
def FI (p:Nat) (o:Nat) (c:Nat) (b:Nat) (n:Nat) (x:Pl.Bl) (t:Pl.Bl) (ax:Option Addr) (cx:Nat) (r:Int):Nat→Value→World→Prop
 |0,vv,_|1,vv,_|7,vv,_|14,vv,_=>vv=.int .i64 (b:Int)
 |2,vv,_=>vv=.int .i64 (n:Int)
 |3,vv,_|4,vv,_|12,vv,_|13,vv,_|15,vv,_=>vv=.bool true
 |5,vv,_=>vv=.func (.func 32) #[] #[]
 |6,vv,_=>vv=.slice (some ⟨p,o,none⟩) n c
 |8,vv,_=>vv=.pointer (some ⟨p,o+b*3,none⟩)
 |9,vv,_=>vv=.agg #[.string x.kind,.string x.name,.slice ax x.lines.length cx]
 |10,vv,_=>vv=.agg #[.string t.kind,.string t.name,.slice none 0 0]
 |11,vv,_=>vv=.int .i64 r
 |_,_,_=>True
theorem wO (p:Nat) (o:Nat) (c:Nat) (b:Nat) (n:Nat) (x:Pl.Bl) (t:Pl.Bl) (ax:Option Addr) (cx:Nat) (r:Int):∀ jj vv W W',Bel W W'→FI p o c b n x t ax cx r jj vv W→FI p o c b n x t ax cx r jj vv W':=by
 intro jj vv W W' hb h;match jj with
 |0|1|2|3|4|5|6|7|8|9|10|11|12|13|14|15=>exact h
 |n+16=>exact trivial
def FQ (p:Nat) (o:Nat) (c:Nat) (b:Nat) (n:Nat) (x:Pl.Bl) (t:Pl.Bl) (ax:Option Addr) (cx:Nat) (r:Int):Nat→Value→World→Prop
 |0,vv,_|1,vv,_|7,vv,_|14,vv,_=>vv=.int .i64 (b:Int)
 |2,vv,_=>vv=.int .i64 (n:Int)
 |3,vv,_|4,vv,_=>vv=.bool true
 |5,vv,_=>vv=.func (.func 32) #[] #[]
 |6,vv,_=>vv=.slice (some ⟨p,o,none⟩) n c
 |8,vv,_=>vv=.pointer (some ⟨p,o+b*3,none⟩)
 |9,vv,_=>vv=.agg #[.string x.kind,.string x.name,.slice ax x.lines.length cx]
 |10,vv,_=>vv=.agg #[.string t.kind,.string t.name,.slice none 0 0]
 |11,vv,_=>vv=.int .i64 r
 |12,vv,_|13,vv,_|15,vv,_=>vv=.bool false
 |_,_,_=>True
theorem wI (p:Nat) (o:Nat) (c:Nat) (b:Nat) (n:Nat) (x:Pl.Bl) (t:Pl.Bl) (ax:Option Addr) (cx:Nat) (r:Int):∀ jj vv W W',Bel W W'→FQ p o c b n x t ax cx r jj vv W→FQ p o c b n x t ax cx r jj vv W':=by
 intro jj vv W W' hb h;match jj with
 |0|1|2|3|4|5|6|7|8|9|10|11|12|13|14|15=>exact h
 |n+16=>exact trivial
def FJ (b:Nat) (n:Nat):Nat→Value→World→Prop
 |0,vv,_|1,vv,_|14,vv,_=>vv=.int .i64 (b:Int)
 |2,vv,_=>vv=.int .i64 (n:Int)
 |3,vv,_|4,vv,_|13,vv,_|15,vv,_=>vv=.bool false
 |5,vv,_|6,vv,_|7,vv,_|8,vv,_|9,vv,_|10,vv,_|11,vv,_|12,vv,_=>vv=undef
 |_,_,_=>True
theorem xE (b:Nat) (n:Nat):∀ jj vv W W',Bel W W'→FJ b n jj vv W→FJ b n jj vv W':=by
 intro jj vv W W' hb h;match jj with
 |0|1|2|3|4|5|6|7|8|9|10|11|12|13|14|15=>exact h
 |n+16=>exact trivial
theorem IH  (L:List Pl.Bl) (v:Value) (t:Pl.Bl) (q:Nat) (w:World)  (h:Raw w aV [aW L] [v])  (Kx:L.length≤1048576) (hq:q≤L.length) (h1:∀ i,i<q→et (L.getD i Pl.aG) t<0) (h2:∀ i,q≤i→i<L.length→0≤et (L.getD i Pl.aG) t):
  Calls Try.prog 36 #[v,.agg #[.string t.kind,.string t.name,.slice none 0 0],.func (.func 32) #[] #[]] w fun e w'=>e=.returned (.tuple #[.int .i64 (q:Nat),.bool (decide (q<L.length)&&decide (et (L.getD q Pl.aG) t=0))])∧Bel w w':=by
 have HH:=uh (And.intro h (And.intro h1 h2));have HTG:=uh (True.intro);obtain⟨a0,c,ev⟩:=h.aP;subst ev;obtain⟨R,hR⟩:∃ R,R=(decide (q<L.length)&&decide (et (L.getD q Pl.aG) t=0)):=⟨_,rfl⟩
 have HR:Hid (R=(decide (q<L.length)&&decide (et (L.getD q Pl.aG) t=0))):=hR;rw[← hR];clear h h1 h2 hR;obtain⟨wa,aS⟩:∃ wa,wa=w.alloc (.cells #[.string t.kind,.string t.name,.slice none 0 0] 32):=⟨_,rfl⟩
 obtain⟨b0,Gg⟩:∃ b0,b0=w.heap.size:=⟨_,rfl⟩
 have HWA:Hid (Bel w wa):=by show Below _ _ _;rw[aS];exact ah zR _
 have eA:Hid (aD wa b0 [.string t.kind,.string t.name,.slice none 0 0]):=by show aD _ _ _;rw[aS,Gg];exact aD.new w #[.string t.kind,.string t.name,.slice none 0 0] _ _ rfl
 obtain⟨n,hn⟩:∃ n,n=L.length:=⟨_,rfl⟩
 have HN:=uh hn;rw[← hn]at HR hq Kx;rw[← hn];clear hn;go_enter Try.func36,Try.ntmps36
 go_upto_region 1 with fail
 rw[← aS,← Gg];clear aS Gg;go_wp2_with fail
 go_loopw [9,10] (fun i j wr=>∃ a b:Nat,i=.int .i64 (a:Nat)∧j=.int .i64 (b:Nat)∧a≤q∧q≤b∧b≤n∧Bel wa wr) (fun i j _=>(intOf j).toNat - (intOf i).toNat)
 case atStart=>exact⟨0,n,rfl,rfl,zN,hq,zE,zR⟩
 case round=>
  obtain⟨a,b,rfl,rfl,ha,hb,gM,hW⟩:=hrel;have tF:Hid (Bel w wr):=ai HWA.out hW;have BP:=uh hW;clear hW;by_cases bN:a<b
  ·obtain⟨m,hm⟩:∃ m,m=(a+b) / 2:=⟨_,rfl⟩
   have xN:a≤m:=by omega
   have mS:m<b:=by omega
   obtain⟨x,hx⟩:∃ x,x=L.getD m Pl.aG:=⟨_,rfl⟩
   have qQ:=uh (BP.out.drew);have K0:=uh (tF.out.drew);have y0:wr.drew.cell? ⟨b0,0,none⟩=some (.string t.kind):=(eA.out.ae BP.out.drew).get 0 _ rfl;have y1:wr.drew.cell? ⟨b0,1,none⟩=some (.string t.name):=(eA.out.ae BP.out.drew).get 1 _ rfl;have y2:wr.drew.cell? ⟨b0,2,none⟩=some (.slice none 0 0):=(eA.out.ae BP.out.drew).get 2 _ rfl;have yl:=(eA.out.ae BP.out.drew).lt;rcases cL HH.out.1 with⟨e0,_⟩|⟨p,o,c',hv,hp,_,aZ⟩
   ·have:=HN.out;omega
   injection hv with g1 _ g3
   subst g1;subst g3;obtain⟨ax,cx,hg,dF⟩:=aZ m (by have:=HN.out;omega);rw[← hx]at hg dF;have cN:=aA hg hp tF.out.drew;have JW:p<wr.drew.heap.size:=zL hp tF.out.drew.size;have c0:wr.drew.cell? ⟨p,o+m*3,none⟩=some (.string x.kind):=aF cN 0 _ rfl;have c1:wr.drew.cell? ⟨p,o+m*3+1,none⟩=some (.string x.name):=aF cN 1 _ rfl;have c2:wr.drew.cell? ⟨p,o+m*3+2,none⟩=some (.slice ax x.lines.length cx):=aF cN 2 _ rfl;obtain⟨r,hr⟩:∃ r,r=et x t:=⟨_,rfl⟩
   have qX:Hid (∀ W,Bel w W→Calls Try.prog 32 #[.agg #[.string x.kind,.string x.name,.slice ax x.lines.length cx],.agg #[.string t.kind,.string t.name,.slice none 0 0]] W fun e w'=>e=.returned (.int .i64 r)∧Bel W w'):=fun W _=>by rw[hr];exact uD _ _ _ _ _ _ W
   have HP:Hid ((r<0→m<q)∧(¬ r<0→q≤m)):=by
    refine⟨fun hz=> ?_,fun hz=> ?_⟩
    ·refine Nat.lt_of_not_le fun hh=> ?_;have:=HH.out.2.2 m hh (by have:=HN.out;omega);rw[← hx,← hr]at this;omega
    ·refine Nat.le_of_not_lt fun hh=> ?_;have:=HH.out.2.1 m hh;rw[← hx,← hr]at this;exact hz this
   have HMZ:Hid (((a:Int)+(b:Int)) / 2=(m:Int)):=by show _=_;omega
   clear hr aZ hg cN dF hx hm;have mG:(0:Int)≤(m:Int):=by omega
   have yA:(m:Int)<(n:Int):=by omega
   by_cases hz:r<0
   ·have HE:Hid (m<q):=HP.out.1 hz;go_wp2_with fail
    rw[HMZ.out];refine dG 6 (by kernel_rfl) (by kernel_rfl) ?_;intro W qx;rw[← qx]at JW qQ K0 yl y0 y1 y2 c0 c1 c2;simp only[List.take_succ_cons,List.take_zero,List.drop_succ_cons,List.drop_zero];clear qx;have HX:=uh (qX.out W K0.out);repeat still_step
    refine wpStill_nil ?_;go_wp2_with (go_at_call 32;refine HX.out.mono ?_;rintro e w2 ⟨rfl,dP⟩)
    go_roundw
    case rel=>exact⟨m+1,b,by go_num,rfl,HE.out,hb,gM,ai qQ.out dP⟩
    case measure=>simp[intOf];omega
   ·have HE:Hid (q≤m):=HP.out.2 hz;have hz':0≤r:=by omega
    go_wp2_with fail
    rw[HMZ.out];refine dG 6 (by kernel_rfl) (by kernel_rfl) ?_;intro W qx;rw[← qx]at JW qQ K0 yl y0 y1 y2 c0 c1 c2;simp only[List.take_succ_cons,List.take_zero,List.drop_succ_cons,List.drop_zero];clear qx;have HX:=uh (qX.out W K0.out);repeat still_step
    refine wpStill_nil ?_;go_wp2_with (go_at_call 32;refine HX.out.mono ?_;rintro e w2 ⟨rfl,dP⟩)
    go_roundw
    case rel=>exact⟨a,m,rfl,rfl,ha,HE.out,by omega,ai qQ.out dP⟩
    case measure=>simp[intOf];omega
  ·obtain rfl:a=q:=by omega
   obtain rfl:b=a:=by omega
   have bD:(0:Int)≤(b:Int):=by omega
   have HK:=uh (eA.out.ae BP.out);by_cases dc:b<n
   ·have Ic:(b:Int)<(n:Int):=by omega
    obtain⟨x,hx⟩:∃ x,x=L.getD b Pl.aG:=⟨_,rfl⟩
    rcases cL HH.out.1 with⟨e0,_⟩|⟨p,o,c',hv,hp,_,aZ⟩
    ·have:=HN.out;omega
    injection hv with g1 _ g3
    subst g1;subst g3;obtain⟨ax,cx,hg,dF⟩:=aZ b (by have:=HN.out;omega);rw[← hx]at hg dF;have eB:=uh (aA hg hp tF.out);have iI:Hid (p<wr.heap.size):=zL hp tF.out.size;obtain⟨r,hr⟩:∃ r,r=et x t:=⟨_,rfl⟩
    have qX:Hid (∀ W,Bel w W→Calls Try.prog 32 #[.agg #[.string x.kind,.string x.name,.slice ax x.lines.length cx],.agg #[.string t.kind,.string t.name,.slice none 0 0]] W fun e w'=>e=.returned (.int .i64 r)∧Bel W w'):=fun W _=>by rw[hr];exact uD _ _ _ _ _ _ W
    have HX:Hid (∀ X,Bel wr X→Calls Try.prog 32 #[.agg #[.string x.kind,.string x.name,.slice ax x.lines.length cx],.agg #[.string t.kind,.string t.name,.slice none 0 0]] X fun e w'=>e=.returned (.int .i64 r)∧Bel X w'):=fun X hX=>qX.out X (ai tF.out hX);have vM:Hid (R=decide (r=0)):=by show R=_;rw[HR.out,hr,hx];simp[dc]
    clear hr aZ hg dF hx;go_upto_region 8 with fail
    by_cases hz:r=0
    ·have ez:Hid (R=true):=by show R=_;rw[vM.out,decide_eq_true hz]
     refine RY.aH wr zR (FI p o c b n x t ax cx r) (wO _ _ _ _ _ _ _ _ _ _) (by kernel_rfl) (by kernel_rfl) (by kernel_rfl) (by kernel_rfl) ?_ ?_
     ·intro ii o' ho a X hX hk hd;have zb0:=HK.out.ae hX;have zb0l:=zb0.lt;match ii,ho with
      |0,rfl|1,rfl=>
       exact RY.n (RY.p (.int .i64 (b:Int)) (by simp[execOp,go_sem,RY.K hk 9 (.int .i64 (b:Int))]))
      |2,rfl=>
       exact RY.n (RY.p (.int .i64 (n:Int)) (by simp[execOp,go_sem,RY.K hk 8 (.int .i64 (n:Int))]))
      |3,rfl=>
       exact RY.n (RY.p (.bool true) (by simp[execOp,go_sem,RY.E hd 1 36,RY.E hd 2 37,Ic]))
      |4,rfl=>
       exact RY.n (RY.p (.bool true) (by simp[execOp,go_sem,RY.E hd 3 38]))
      |5,rfl=>
       exact RY.on hd 4 39 (RY.p (.func (.func 32) #[] #[]) (by simp[execOp,go_sem,RY.K hk 2 (.func (.func 32) #[] #[])]))
      |6,rfl=>
       exact RY.on hd 4 39 (RY.p (.slice (some ⟨p,o,none⟩) n c) (by simp[execOp,go_sem,RY.K hk 0 (.slice (some ⟨p,o,none⟩) n c)]))
      |7,rfl=>
       exact RY.on hd 4 39 (RY.p (.int .i64 (b:Int)) (by simp[execOp,go_sem,RY.K hk 9 (.int .i64 (b:Int))]))
      |8,rfl=>
       exact RY.on hd 4 39 (RY.p (.pointer (some ⟨p,o+b*3,none⟩)) (by simp[execOp,go_sem,RY.E hd 6 41,RY.E hd 7 42,bD,Ic]))
      |9,rfl=>
       have gd:=hd 4 _ 39 rfl rfl ⟨⟨4,.guard⟩,by simp,rfl,rfl⟩;have v43:a.eval (.tmp 43)=.pointer (some ⟨p,o+b*3,none⟩):=hd 8 _ 43 rfl rfl ⟨⟨8,.data⟩,by simp,rfl,rfl⟩;exact Or.inl ⟨(RY.ak rfl rfl rfl gd).trans rfl,Or.inl ⟨_,X,aq 32 _ rfl p (o+b*3) v43 [.string x.kind,.string x.name,.slice ax x.lines.length cx] _ (aA eB.out iI.out hX) Try.underlying32 rfl (by kernel_rfl),zR,rfl⟩⟩
      |10,rfl=>
       have gd:=hd 4 _ 39 rfl rfl ⟨⟨4,.guard⟩,by simp,rfl,rfl⟩;have v4:a.eval (.tmp 4)=.pointer (some ⟨b0,0,none⟩):=(hk 4 (by kernel_rfl)).trans rfl;exact Or.inl ⟨(RY.ak rfl rfl rfl gd).trans rfl,Or.inl ⟨_,X,aq 32 _ rfl b0 0 v4 [.string t.kind,.string t.name,.slice none 0 0] _ zb0.at_ Try.underlying32 rfl (by kernel_rfl),zR,rfl⟩⟩
      |11,rfl=>
       have e40:=RY.E hd 5 40;have e44:=RY.E hd 9 44;have e45:=RY.E hd 10 45;refine RY.on hd 4 39 (.inr ⟨32,#[.agg #[.string x.kind,.string x.name,.slice ax x.lines.length cx],.agg #[.string t.kind,.string t.name,.slice none 0 0]],by simp[go_sem,e40,e44,e45],(HX.out X hX).mono ?_⟩);rintro e W' ⟨rfl,hb⟩;exact⟨_,rfl,hb,rfl⟩
      |12,rfl=>
       exact RY.on hd 4 39 (RY.p (.bool true) (by simp[execOp,go_sem,RY.E hd 11 46,hz]))
      |13,rfl=>
       exact RY.n (RY.p (.bool true) (by simp[execOp,go_sem,RY.E hd 4 39,RY.E hd 12 47]))
      |14,rfl=>
       exact RY.n (RY.p (.int .i64 (b:Int)) (by simp[execOp,go_sem,RY.E hd 0 35]))
      |15,rfl=>
       exact RY.n (RY.p (.bool true) (by simp[execOp,go_sem,RY.E hd 13 48]))
      |n+16,ho=>simp at ho
     intro X vs hX bd;have q6:vs 6=_:=bd 14 _ 6 rfl rfl;have q7:vs 7=_:=bd 15 _ 7 rfl rfl;simp only[RY.aE,Act.put,List.setIfInBounds_toArray,List.set_cons_zero,List.set_cons_succ];rw[q6,q7];generalize vs 35=k6,vs 36=k9,vs 37=lj,vs 38=lY,vs 39=mu,vs 40=s40,vs 41=s41,vs 42=s42,vs 43=s43,vs 44=s44,vs 45=s45,vs 46=s46,vs 47=s47,vs 48=s48;clear bd q6 q7;go_wp2;go_ret2;refine⟨Pl.tH ez.out.symm,ai tF.out hX⟩
    ·have ez:Hid (R=false):=by show R=_;rw[vM.out,decide_eq_false hz]
     refine RY.aH wr zR (FQ p o c b n x t ax cx r) (wI _ _ _ _ _ _ _ _ _ _) (by kernel_rfl) (by kernel_rfl) (by kernel_rfl) (by kernel_rfl) ?_ ?_
     ·intro ii o' ho a X hX hk hd;have zb0:=HK.out.ae hX;have zb0l:=zb0.lt;match ii,ho with
      |0,rfl|1,rfl=>
       exact RY.n (RY.p (.int .i64 (b:Int)) (by simp[execOp,go_sem,RY.K hk 9 (.int .i64 (b:Int))]))
      |2,rfl=>
       exact RY.n (RY.p (.int .i64 (n:Int)) (by simp[execOp,go_sem,RY.K hk 8 (.int .i64 (n:Int))]))
      |3,rfl=>
       exact RY.n (RY.p (.bool true) (by simp[execOp,go_sem,RY.E hd 1 36,RY.E hd 2 37,Ic]))
      |4,rfl=>
       exact RY.n (RY.p (.bool true) (by simp[execOp,go_sem,RY.E hd 3 38]))
      |5,rfl=>
       exact RY.on hd 4 39 (RY.p (.func (.func 32) #[] #[]) (by simp[execOp,go_sem,RY.K hk 2 (.func (.func 32) #[] #[])]))
      |6,rfl=>
       exact RY.on hd 4 39 (RY.p (.slice (some ⟨p,o,none⟩) n c) (by simp[execOp,go_sem,RY.K hk 0 (.slice (some ⟨p,o,none⟩) n c)]))
      |7,rfl=>
       exact RY.on hd 4 39 (RY.p (.int .i64 (b:Int)) (by simp[execOp,go_sem,RY.K hk 9 (.int .i64 (b:Int))]))
      |8,rfl=>
       exact RY.on hd 4 39 (RY.p (.pointer (some ⟨p,o+b*3,none⟩)) (by simp[execOp,go_sem,RY.E hd 6 41,RY.E hd 7 42,bD,Ic]))
      |9,rfl=>
       have gd:=hd 4 _ 39 rfl rfl ⟨⟨4,.guard⟩,by simp,rfl,rfl⟩;have v43:a.eval (.tmp 43)=.pointer (some ⟨p,o+b*3,none⟩):=hd 8 _ 43 rfl rfl ⟨⟨8,.data⟩,by simp,rfl,rfl⟩;exact Or.inl ⟨(RY.ak rfl rfl rfl gd).trans rfl,Or.inl ⟨_,X,aq 32 _ rfl p (o+b*3) v43 [.string x.kind,.string x.name,.slice ax x.lines.length cx] _ (aA eB.out iI.out hX) Try.underlying32 rfl (by kernel_rfl),zR,rfl⟩⟩
      |10,rfl=>
       have gd:=hd 4 _ 39 rfl rfl ⟨⟨4,.guard⟩,by simp,rfl,rfl⟩;have v4:a.eval (.tmp 4)=.pointer (some ⟨b0,0,none⟩):=(hk 4 (by kernel_rfl)).trans rfl;exact Or.inl ⟨(RY.ak rfl rfl rfl gd).trans rfl,Or.inl ⟨_,X,aq 32 _ rfl b0 0 v4 [.string t.kind,.string t.name,.slice none 0 0] _ zb0.at_ Try.underlying32 rfl (by kernel_rfl),zR,rfl⟩⟩
      |11,rfl=>
       have e40:=RY.E hd 5 40;have e44:=RY.E hd 9 44;have e45:=RY.E hd 10 45;refine RY.on hd 4 39 (.inr ⟨32,#[.agg #[.string x.kind,.string x.name,.slice ax x.lines.length cx],.agg #[.string t.kind,.string t.name,.slice none 0 0]],by simp[go_sem,e40,e44,e45],(HX.out X hX).mono ?_⟩);rintro e W' ⟨rfl,hb⟩;exact⟨_,rfl,hb,rfl⟩
      |12,rfl=>
       exact RY.on hd 4 39 (RY.p (.bool false) (by simp[execOp,go_sem,RY.E hd 11 46,hz]))
      |13,rfl=>
       exact RY.n (RY.p (.bool false) (by simp[execOp,go_sem,RY.E hd 4 39,RY.E hd 12 47]))
      |14,rfl=>
       exact RY.n (RY.p (.int .i64 (b:Int)) (by simp[execOp,go_sem,RY.E hd 0 35]))
      |15,rfl=>
       exact RY.n (RY.p (.bool false) (by simp[execOp,go_sem,RY.E hd 13 48]))
      |n+16,ho=>simp at ho
     intro X vs hX bd;have q6:vs 6=_:=bd 14 _ 6 rfl rfl;have q7:vs 7=_:=bd 15 _ 7 rfl rfl;simp only[RY.aE,Act.put,List.setIfInBounds_toArray,List.set_cons_zero,List.set_cons_succ];rw[q6,q7];generalize vs 35=k6,vs 36=k9,vs 37=lj,vs 38=lY,vs 39=mu,vs 40=s40,vs 41=s41,vs 42=s42,vs 43=s43,vs 44=s44,vs 45=s45,vs 46=s46,vs 47=s47,vs 48=s48;clear bd q6 q7;go_wp2;go_ret2;refine⟨Pl.tH ez.out.symm,ai tF.out hX⟩
   ·have Ic:¬ ((b:Int)<(n:Int)):=by omega
    have ez:Hid (R=false):=by show R=_;rw[HR.out];simp[dc]
    go_upto_region 8 with fail
    refine RY.aH wr zR (FJ b n) (xE _ _) (by kernel_rfl) (by kernel_rfl) (by kernel_rfl) (by kernel_rfl) ?_ ?_
    ·intro ii o' ho a X hX hk hd;have zb0:=HK.out.ae hX;have zb0l:=zb0.lt;match ii,ho with
     |0,rfl|1,rfl=>
      exact RY.n (RY.p (.int .i64 (b:Int)) (by simp[execOp,go_sem,RY.K hk 9 (.int .i64 (b:Int))]))
     |2,rfl=>
      exact RY.n (RY.p (.int .i64 (n:Int)) (by simp[execOp,go_sem,RY.K hk 8 (.int .i64 (n:Int))]))
     |3,rfl=>
      exact RY.n (RY.p (.bool false) (by simp[execOp,go_sem,RY.E hd 1 36,RY.E hd 2 37,Ic]))
     |4,rfl=>
      exact RY.n (RY.p (.bool false) (by simp[execOp,go_sem,RY.E hd 3 38]))
     |5,rfl|6,rfl|7,rfl|8,rfl|9,rfl|10,rfl|11,rfl|12,rfl=>
      exact RY.off hd 4 39
     |13,rfl=>
      exact RY.n (RY.p (.bool false) (by simp[execOp,go_sem,RY.E hd 4 39,RY.E hd 12 47]))
     |14,rfl=>
      exact RY.n (RY.p (.int .i64 (b:Int)) (by simp[execOp,go_sem,RY.E hd 0 35]))
     |15,rfl=>
      exact RY.n (RY.p (.bool false) (by simp[execOp,go_sem,RY.E hd 13 48]))
     |n+16,ho=>simp at ho
    intro X vs hX bd;have q6:vs 6=_:=bd 14 _ 6 rfl rfl;have q7:vs 7=_:=bd 15 _ 7 rfl rfl;simp only[RY.aE,Act.put,List.setIfInBounds_toArray,List.set_cons_zero,List.set_cons_succ];rw[q6,q7];generalize vs 35=k6,vs 36=k9,vs 37=lj,vs 38=lY,vs 39=mu,vs 40=s40,vs 41=s41,vs 42=s42,vs 43=s43,vs 44=s44,vs 45=s45,vs 46=s46,vs 47=s47,vs 48=s48;clear bd q6 q7;go_wp2;go_ret2;refine⟨Pl.tH ez.out.symm,ai tF.out hX⟩
def gF (sh:List Sh) (A:Dt) (b:Bool) (W:World) (e:Ending) (w':World):Prop:=∃ v F,e=.returned (.tuple #[v,.bool b])∧Rep w' false sh F [A] [v]∧F.Nodup∧(∀ b∈F,W.heap.size≤b)∧Bel W w'
theorem Ec {s:List Pl.Bl} {kind name key:ByteArray} (h:Pl.aM s=false∨Pl.dJ s kind name=none∨Pl.bJ (Pl.aj kind) key=none):Pl.bV s kind name key=([],false):=by
 unfold Pl.bV;split
 ·rename_i h1 h2 h3
  rw[h1,h2,h3]at h;simp at h
 ·rfl
theorem z5 {s:List Pl.Bl} {kind name key:ByteArray} {k r:Nat} (h1:Pl.aM s=true) (h2:Pl.dJ s kind name=some k) (h3:Pl.bJ (Pl.aj kind) key=some r):Pl.bV s kind name key=(if decide ((Pl.aI (s.getD k Pl.aG).lines key).length=0)&& !((Pl.aj kind).getD r Pl.aO).many then [⟨key,((Pl.aj kind).getD r Pl.aO).dflt⟩] else Pl.aI (s.getD k Pl.aG).lines key,true):=by
 unfold Pl.bV;rw[h1,h2,h3]
theorem wZ (s:List Pl.Bl) (v:Value) (kind name key:ByteArray) (w:World) (h:Raw w aV [aW s] [v]) (hz:kr s) (hl:∀ b∈s,b.lines.length≤4194304∧∀ x∈b.lines,x.ws.length≤4194304):
  Calls Try.prog 16 #[.agg #[v],.string kind,.string name,.string key] w (gF aJ (aU (Pl.bV s kind name key).1) (Pl.bV s kind name key).2 w):=by
 have HL:=uh h;have HZ:=uh hz;have jD:=uh hl;obtain⟨va,vc,ev⟩:=h.aP;subst ev;have qA:=uh (fun h=>Ec (s:=s) (kind:=kind) (name:=name) (key:=key) h);have uR:=uh (fun k r h1 h2 h3=>z5 (s:=s) (kind:=kind) (name:=name) (key:=key) (k:=k) (r:=r) h1 h2 h3);clear h hz hl;obtain⟨n,hn⟩:∃ n,n=s.length:=⟨_,rfl⟩
 have HN:=uh hn;have eD:s.length=n:=hn.symm;clear hn;rw[eD];clear eD;obtain⟨wa,aS⟩:∃ wa,wa=w.alloc (.cells #[.slice va n vc] 25):=⟨_,rfl⟩
 have jP:Hid (Bel w wa):=by show Below _ _ _;rw[aS];exact ah zR _
 have cu:Hid (aD wa w.heap.size [.slice va n vc]):=by show aD _ _ _;rw[aS];exact aD.new w #[.slice va n vc] _ _ rfl
 have I3:Hid (Raw wa aV [aW s] [.slice va n vc]):=by show Raw _ _ _ _;rw[HN.out];exact HL.out.ae jP.out
 go_enter Try.func16,Try.ntmps16
 go_upto_region 1 with fail
 rw[← aS];clear aS;obtain⟨b0,bD⟩:∃ b0,b0=w.heap.size:=⟨_,rfl⟩
 rw[← bD]at cu ⊢;have iG:=uh bD;clear bD;have r0:=cu.out.at_;have oT:=uh (rW s (.slice va n vc) kind name wa I3.out);go_wp2_with (refine wpList_load_mid rfl 25 _ rfl b0 0 rfl [.slice va n vc] _ r0 Try.underlying25 rfl (by kernel_rfl) ?_)
 refine oT.out.mono ?_;rintro e w1 ⟨rfl,bZ⟩;have fz:=uh bZ;have j9:=uh (fS kind key w1);clear bZ r0 oT;go_wp2_with fail
 refine j9.out.mono ?_;rintro e w2 ⟨rfl,dP⟩;have gQ:Hid (Bel wa w2):=ai fz.out dP;clear dP j9 fz;have r0:=(cu.out.ae gQ.out).at_;have HC3:=uh (gx s (.slice va n vc) w2 (I3.out.ae gQ.out) HZ.out);go_wp2_with (refine wpList_load_mid rfl 25 _ rfl b0 0 rfl [.slice va n vc] _ r0 Try.underlying25 rfl (by kernel_rfl) ?_)
 refine HC3.out.mono ?_;rintro e w3 ⟨rfl,eV⟩;have mg:Hid (Bel wa w3):=ai gQ.out eV;clear eV HC3 gQ r0;obtain⟨fo,LQ⟩:∃ x,x=Pl.dJ s kind name:=⟨_,rfl⟩
 obtain⟨ro,qV⟩:∃ x,x=Pl.bJ (Pl.aj kind) key:=⟨_,rfl⟩
 obtain⟨vb,Bt⟩:∃ x,x=Pl.aM s:=⟨_,rfl⟩
 rw[← LQ,← qV,← Bt]at qA ⊢;have HF:=uh (And.intro LQ (And.intro qV Bt));clear LQ qV Bt;have Gn:Hid ((vb=false∨fo=none∨ro=none)→gF aJ (aU (Pl.bV s kind name key).1) (Pl.bV s kind name key).2 w (.returned (.tuple #[.slice (some ⟨w3.heap.size,0,none⟩) 0 0,.bool false])) (w3.alloc (.cells #[] 53))):=fun h=>by
  rw[qA.out h];exact⟨_,[],rfl,.emp _ _ _ rfl .nil,List.nodup_nil,by simp,ah (ai jP.out mg.out) _⟩
 clear qA;cases vb
 ·have HX:=uh (Gn.out (Or.inl rfl));clear Gn;go_wp2;go_ret2;exact HX.out
 cases fo with
 |none=>
  have HX:=uh (Gn.out (Or.inr (Or.inl rfl)));have hm:Pl.ixI none= -1:=rfl;rw[hm];clear Gn hm;go_wp2;go_ret2;exact HX.out
 |some k=>
 cases ro with
 |none=>
  have HX:=uh (Gn.out (Or.inr (Or.inr rfl)));have hm:Pl.ixI none= -1:=rfl;have mS:Pl.ixI (some k)=(k:Int):=rfl;have dd:¬ ((k:Int)<0):=by omega
  rw[hm,mS];clear Gn hm mS;go_wp2;go_ret2;exact HX.out
 |some r=>
 clear Gn;have xN:Pl.ixI (some r)=(r:Int):=rfl;have mS:Pl.ixI (some k)=(k:Int):=rfl;have dd:¬ ((k:Int)<0):=by omega
 have uW:¬ ((r:Int)<0):=by omega
 rw[xN,mS];clear xN mS;have qB:=uh (uR.out k r HF.out.2.2.symm HF.out.1.symm HF.out.2.1.symm);have eP:k<s.length:=Pl.nG HF.out.1.symm;have E2:r<(Pl.aj kind).length:=Pl.fm HF.out.2.1.symm;rcases cL (I3.out.ae mg.out) with⟨e0,_⟩|⟨p,o,c,hv,hp,ec,aZ⟩
 ·omega
 rw[← HN.out]at hv ec;injection hv with g1 _ g3
 subst g1;subst g3;obtain⟨ax,cx,dO,dF⟩:=aZ k eP;have vW:(s.getD k Pl.aG).lines.length≤4194304∧∀ x∈(s.getD k Pl.aG).lines,x.ws.length≤4194304:=by
  have e:s.getD k Pl.aG=s[k]:=by simp[eP]
  rw[e];exact jD.out _ (List.getElem_mem eP)
 obtain⟨x,hx⟩:∃ x,x=s.getD k Pl.aG:=⟨_,rfl⟩
 rw[← hx]at dO dF qB vW;have HC4:=uh (AL x (.slice ax x.lines.length cx) key w3 dF vW.1 vW.2);have x0:=(cu.out.ae mg.out).get 0 _ rfl;have xl:=(cu.out.ae mg.out).lt;have yz:(0:Int)≤(k:Int):=by omega
 have de:(k:Int)<(n:Int):=by have:=HN.out;omega
 clear hx aZ dF vW ec;go_wp2_with (refine wpList_load_mid rfl 32 _ rfl p (o+k*3) rfl [.string x.kind,.string x.name,.slice ax x.lines.length cx] _ dO Try.underlying32 rfl (by kernel_rfl) ?_)
 refine HC4.out.mono ?_;rintro e w4 ⟨v4,F4,rfl,LN,nd4,lo4,qD⟩;have EL:Hid (Bel wa w4):=ai mg.out qD;have H4:Hid (Rep w4 false aJ F4 [aU (Pl.aI x.lines key)] [v4]∧F4.Nodup∧∀ b∈F4,wa.heap.size≤b):=⟨LN,nd4,fun b hb=>Nat.le_trans mg.out.size (lo4 b hb)⟩
 obtain⟨a4,c4,D1⟩:=LN.raw.aP;subst D1;have HC5:=uh (cB kind w4);clear LN nd4 lo4 qD mg HC4 x0 xl yz de dO hp dd uW;obtain⟨out,qM⟩:∃ z,z=Pl.aI x.lines key:=⟨_,rfl⟩
 rw[← qM]at H4 qB ⊢;clear qM;go_wp2_with fail
 refine HC5.out.mono ?_;rintro e w5 ⟨v5,F5,rfl,JO,nd5,lo5,mH⟩;obtain⟨p5,o5,c5,a1,c1,v3,Jx,hp5,Lp,_,KY⟩:=eE JO.raw E2;have HB5:Hid (Bel wa w5):=ai EL.out mH;have H5:Hid (Rep w5 false aJ F4 [aU out] [.slice a4 out.length c4]):=H4.out.1.ae mH;obtain⟨a3,c3,oh⟩:=KY.aP;subst oh;subst Jx;have xJ:((Pl.aj kind).getD r Pl.aO).dflt.length≤4194304:=by
  have h1:∀ x∈Pl.aj kind,x.dflt.length≤4194304:=by
   unfold Pl.aj;split
   ·decide
   ·split
    ·decide
    ·split<;>decide
  have e:(Pl.aj kind).getD r Pl.aO=(Pl.aj kind)[r]:=by simp[E2]
  rw[e];exact h1 _ (List.getElem_mem E2)
 obtain⟨ru,vN⟩:∃ x,x=(Pl.aj kind).getD r Pl.aO:=⟨_,rfl⟩
 rw[← vN]at Lp KY qB xJ;clear vN;obtain⟨m,hm⟩:∃ m,m=(Pl.aj kind).length:=⟨_,rfl⟩
 rw[← hm]at E2 ⊢;clear hm;have ji:(0:Int)≤(r:Int):=by omega
 have FY:(r:Int)<(m:Int):=by omega
 obtain⟨w6,vX⟩:∃ w6,w6=w5.alloc (.cells #[.string ru.key,.slice a1 ru.args.length c1,.bool ru.many,.slice a3 ru.dflt.length c3] 40):=⟨_,rfl⟩
 have lX:Bel w5 w6:=by rw[vX];exact ah zR _
 obtain⟨b6,Hc⟩:∃ b,b=w5.heap.size:=⟨_,rfl⟩
 have fk:Hid (aD w6 b6 [.string ru.key,.slice a1 ru.args.length c1,.bool ru.many,.slice a3 ru.dflt.length c3]):=by show aD _ _ _;rw[vX,Hc];exact aD.new w5 #[.string ru.key,.slice a1 ru.args.length c1,.bool ru.many,.slice a3 ru.dflt.length c3] _ _ rfl
 have H6:=uh (H5.out.ae lX);have Cj:Hid (Bel wa w6):=ai HB5.out lX;have Df:=uh (KY.ae lX);have AV:=uh xJ;clear JO nd5 lo5 mH KY xJ HC5 EL;go_upto_region 7 with(refine wpList_load_mid rfl 40 _ rfl p5 (o5+r*4) rfl [.string ru.key,.slice a1 ru.args.length c1,.bool ru.many,.slice a3 ru.dflt.length c3] _ Lp Try.underlying40 rfl (by kernel_rfl) ?_)
 rw[← vX,← Hc];clear vX Hc lX Lp hp5 ji FY H5 HB5;have x2:=fk.out.get 2 _ rfl;have xl:=fk.out.lt;have HD:Hid (gF aJ (aU out) true w (.returned (.tuple #[.slice a4 out.length c4,.bool true])) w6):=⟨_,F4,rfl,H6.out,H4.out.2.1,fun b hb=>Nat.le_trans jP.out.size (H4.out.2.2 b hb),ai jP.out Cj.out⟩
 by_cases h0:out.length=0
 rotate_left
 ·have HG:Hid (Pl.bV s kind name key=(out,true)):=by show _=_;rw[qB.out];simp[h0]
  have eT:¬ ((out.length:Int)=0):=by omega
  go_wp2;go_ret2;rw[HG.out];exact HD.out
 cases hmy:ru.many
 rotate_left
 ·have HG:Hid (Pl.bV s kind name key=(out,true)):=by show _=_;rw[qB.out];simp[hmy]
  rw[hmy]at x2;have eT:(out.length:Int)=0:=by omega
  go_wp2;go_ret2;rw[HG.out];exact HD.out
 have HG:Hid (Pl.bV s kind name key=([⟨key,ru.dflt⟩],true)):=by show _=_;rw[qB.out];simp[hmy,h0]
 rw[hmy]at x2;have eT:(out.length:Int)=0:=by omega
 clear HD H6 H4;obtain⟨w7,AS⟩:∃ w7,w7=w6.alloc (.cells #[] 9):=⟨_,rfl⟩
 have Br:Bel w6 w7:=by rw[AS];exact ah zR _
 obtain⟨v8,w8,xs8,cg,L3,lW⟩:=i6 (P:=Try.prog) w6.heap.size 38 38 9 9 1 16 _ Try.fv Try.bI rfl (by decide) (by decide) [.s] rfl (by simp[cO]) w7 (.slice (some ⟨w6.heap.size,0,none⟩) 0 0) (Or.inr ⟨w6.heap.size,rfl,zE,by rw[AS];exact heap_alloc_new _ _⟩) Br.size ru.dflt.length (txD ru.dflt) (.slice a3 ru.dflt.length c3) (Df.out.ae Br) AV.out;have x3:=(fk.out.ae Br).get 3 _ rfl;have xl3:=(fk.out.ae Br).lt;rw[AS]at cg x3 xl3;obtain⟨wx,wc,ot⟩:=L3.shape;subst ot;obtain⟨FA,rA,ndA,frA⟩:=L3.done;obtain⟨w9,yv⟩:∃ w9,w9=w8.alloc (.cells #[.string key,.slice wx ru.dflt.length wc] 53):=⟨_,rfl⟩
 have Be:Bel w8 w9:=by rw[yv];exact ah zR _
 have HD:Hid (gF aJ (aU [⟨key,ru.dflt⟩]) true w (.returned (.tuple #[.slice (some ⟨w8.heap.size,0,none⟩) 1 1,.bool true])) w9):=by
  refine⟨_,w8.heap.size::((FA++[])++[]),rfl, ?_, ?_, ?_, ?_⟩
  ·refine .row _ _ w8.heap.size 0 1 1 53 2 [.string key,.slice wx ru.dflt.length wc] _ (FA++[]) ?_ (by decide) (by simp) ⟨by decide,zE⟩ ?_ ?_ .nil
   ·rw[yv];exact aL.alloc w8 #[.string key,.slice wx ru.dflt.length wc] 53 _ rfl
   ·rw[yv];exact(aD.new w8 #[.string key,.slice wx ru.dflt.length wc] _ _ rfl).at_
   ·exact cS key (rA.ae Be)
  ·rw[List.append_nil,List.append_nil,List.nodup_cons];exact⟨fun h=>by have:=rA.lt _ h;omega,ndA⟩
  ·intro b hb;rw[List.append_nil,List.append_nil]at hb;have:=jP.out.size;have:=Cj.out.size;have:=Br.size;have:=lW.size;rcases List.mem_cons.1 hb with rfl|hb
   ·omega
   ·have:=frA b hb;omega
  ·exact ai (ai (ai (ai jP.out Cj.out) Br) lW) Be
 clear Br L3 rA ndA frA Be lW;go_upto_region 9 with(at_builtin;refine Go.Lib.wpList_append_run _ rfl _ _ 38 38 rfl _ _ rfl rfl _ w8 cg ?_)
 rw[← yv];clear yv AS cg;go_wp2;go_ret2;rw[HG.out];exact HD.out
def VGt (b0:Nat) (p:Nat) (o:Nat) (n:Nat) (vc:Nat) (k:Nat) (N0:Nat) (ru:Pl.Ru) (a1:Option Addr) (a3:Option Addr) (ax:Option Addr) (c1:Nat) (c3:Nat) (cx:Nat) (x:Pl.Bl) (out:List Pl.Ln):Nat→Value→World→Prop
 |0,vv,_=>vv=.agg #[.string ru.key,.slice a1 ru.args.length c1,.bool ru.many,.slice a3 ru.dflt.length c3]
 |1,vv,_=>vv=.pointer (some ⟨b0,0,none⟩)
 |2,vv,_=>vv=.slice (some ⟨p,o,none⟩) n vc
 |3,vv,_=>vv=.int .i64 (k:Int)
 |4,vv,_=>vv=.pointer (some ⟨p,o+k*3,none⟩)
 |5,vv,_=>vv=.pointer (some ⟨p,o+k*3+2,none⟩)
 |6,vv,_=>vv=.slice ax x.lines.length cx
 |7,vv,W=>∃ v F,vv=v∧Rep W false aJ F [aU out] [v]∧F.Nodup∧∀ b∈F,N0≤b
 |8,vv,W=>∃ v F,vv=v∧Rep W false aJ F [aU out] [v]∧F.Nodup∧∀ b∈F,N0≤b
 |9,vv,_=>vv=.bool true
 |_,_,_=>True
theorem zv (b0:Nat) (p:Nat) (o:Nat) (n:Nat) (vc:Nat) (k:Nat) (N0:Nat) (ru:Pl.Ru) (a1:Option Addr) (a3:Option Addr) (ax:Option Addr) (c1:Nat) (c3:Nat) (cx:Nat) (x:Pl.Bl) (out:List Pl.Ln):∀ jj vv W W',Bel W W'→VGt b0 p o n vc k N0 ru a1 a3 ax c1 c3 cx x out jj vv W→VGt b0 p o n vc k N0 ru a1 a3 ax c1 c3 cx x out jj vv W':=by
 intro jj vv W W' hb h;match jj with
 |0=>exact h
 |1=>exact h
 |2=>exact h
 |3=>exact h
 |4=>exact h
 |5=>exact h
 |6=>exact h
 |7=>
  obtain⟨v,F,h1,h2,h3⟩:=h;exact⟨v,F,h1,h2.ae hb,h3⟩
 |8=>
  obtain⟨v,F,h1,h2,h3⟩:=h;exact⟨v,F,h1,h2.ae hb,h3⟩
 |9=>exact h
 |n+10=>exact trivial
theorem jm (s:List Pl.Bl) (v:Value) (kind name key:ByteArray) (w:World) (h:Raw w aV [aW s] [v]) (hz:kr s) (hw:Pl.wsh s≤1048576) (_:kind.size≤1048576) (_:name.size≤1048576) (_:key.size≤1048576):
  Calls Try.prog 13 #[.agg #[v],.string kind,.string name,.string key] w (gF aJ (aU (Pl.bV s kind name key).1) (Pl.bV s kind name key).2 w):=by
 have HL:=uh h;have jD:=uh (iP s hw);have jI:=uh (fun hv:Pl.aM s=true=>gY hv);obtain⟨va,vc,ev⟩:=h.aP;subst ev;have qA:Hid (∀ W,(Pl.aM s=false∨Pl.dJ s kind name=none∨Pl.bJ (Pl.aj kind) key=none)→Bel w W→gF aJ (aU (Pl.bV s kind name key).1) (Pl.bV s kind name key).2 w (.returned (.tuple #[.slice none 0 0,.bool false])) W):=fun W hn hb=>by
  rw[Ec hn];exact⟨_,[],rfl,.emp _ _ _ rfl .nil,List.nodup_nil,by simp,hb⟩
 have uR:=uh (fun k r h1 h2 h3=>z5 (s:=s) (kind:=kind) (name:=name) (key:=key) (k:=k) (r:=r) h1 h2 h3);have vL:=uh (fun X (hX:Bel w X)=>gE s (.slice va s.length vc) X (h.ae hX) hz (by rw[gU];exact hw));have Gq:=uh (fun hv:Pl.aM s=true=>Cn (jZ hv) kind name);have Er:=uh (fun (hv:Pl.aM s=true) X (hX:Bel w X)=>IH s (.slice va s.length vc) ⟨kind,name,[]⟩ (dt Pl.ahead s ⟨kind,name,[]⟩) X (h.ae hX) (by have:=gY hv;omega) (IN _ _ _) (mP pG Pl.aG s _) (uX pG Pl.aG (jZ hv) _));clear h hz hw;obtain⟨q,hq⟩:∃ q,q=dt Pl.ahead s ⟨kind,name,[]⟩:=⟨_,rfl⟩
 rw[← hq]at Gq Er;obtain⟨fd,hfd⟩:∃ fd,fd=(decide (q<s.length)&&decide (et (s.getD q Pl.aG) ⟨kind,name,[]⟩=0)):=⟨_,rfl⟩
 rw[← hfd]at Gq Er;clear hq hfd;obtain⟨n,hn⟩:∃ n,n=s.length:=⟨_,rfl⟩
 have HN:=uh hn;have eD:s.length=n:=hn.symm;clear hn;rw[eD]at vL Er jI;rw[eD];clear eD;obtain⟨vb,Bt⟩:∃ x,x=Pl.aM s:=⟨_,rfl⟩
 rw[← Bt]at vL Gq Er jI;have HVB:=uh Bt;clear Bt;obtain⟨wa,aS⟩:∃ wa,wa=w.alloc (.cells #[.slice va n vc] 25):=⟨_,rfl⟩
 obtain⟨b0,bD⟩:∃ b0,b0=w.heap.size:=⟨_,rfl⟩
 have HB:Hid (Bel w wa):=by show Below _ _ _;rw[aS];exact ah zR _
 have cu:Hid (aD wa b0 [.slice va n vc]):=by show aD _ _ _;rw[aS,bD];exact aD.new w #[.slice va n vc] _ _ rfl
 go_enter Try.func13,Try.ntmps13
 go_upto_region 1 with fail
 rw[← aS,← bD];clear aS bD;have x0:=cu.out.get 0 _ rfl;have xl:=cu.out.lt;go_wp2_with fail
 refine(vL.out _ HB.out).mono ?_;rintro e w1 ⟨rfl,bZ⟩;replace HB:=uh (ai HB.out bZ)
 replace cu:=uh (cu.out.ae bZ)
 clear bZ x0 xl vL;cases vb
 ·have HX:Hid (gF aJ (aU (Pl.bV s kind name key).1) (Pl.bV s kind name key).2 w (.returned (.tuple #[.slice none 0 0,.bool false])) w1):=qA.out _ (Or.inl HVB.out.symm) HB.out;go_wp2;go_ret2;exact HX.out
 replace Gq:=uh (Gq.out rfl)
 replace jI:=uh (jI.out rfl)
 replace Er:=uh (fun X hX=>Er.out rfl X hX)
 have x0:=cu.out.get 0 _ rfl;have xl:=cu.out.lt;go_wp2_with fail
 refine(Er.out _ HB.out).mono ?_;rintro e w1b ⟨rfl,bZ⟩;replace HB:=uh (ai HB.out bZ)
 replace cu:=uh (cu.out.ae bZ)
 clear bZ x0 xl Er;have tB:=uh (gy w1b);go_wp2_with fail
 refine tB.out.mono ?_;rintro e w2 ⟨mb,w0,vt,vbb,vs,rfl,hm,h0,k1,k2,k3,hb⟩;have oE:=lG hm kind;obtain⟨ra,rc,Ke,JL⟩:∃ ra rc,iF kind vt vbb vs=.slice ra (Pl.aj kind).length rc∧Raw w2 [.row 40 aC] [bQ (Pl.aj kind)] [.slice ra (Pl.aj kind).length rc]:=by
  obtain⟨v,F,he,iC,_⟩:=kM (w:=w1b) kind h0 k1 k2 k3 hb;injection he with he
  obtain⟨ra,rc,hv⟩:=iC.raw.aP;subst hv;exact⟨ra,rc,he,iC.raw⟩
 rw[Ke]at oE;replace HB:=uh (ai HB.out hb)
 replace cu:=uh (cu.out.ae hb)
 have EK:=uh (AA (Pl.aj kind) ra rc key w2 w2 zR (Pl.cP kind) JL);have It:=uh (j5 kind);clear hm h0 k1 k2 k3 hb Ke JL tB;obtain⟨l,hl⟩:∃ l,l=Pl.aj kind:=⟨_,rfl⟩
 rw[← hl]at oE EK It;have Hs:=uh hl;clear hl;go_wp2_with fail
 refine EK.out.mono ?_;rintro e JA ⟨qY,hb⟩;unfold kQ at qY;replace HB:=uh (ai HB.out hb)
 replace cu:=uh (cu.out.ae hb)
 clear oE EK;cases jR:Pl.bJ l key with
 |none=>
  rw[jR]at qY;simp only at qY;subst qY;have MU:Hid (Pl.bJ (Pl.aj kind) key=none):=by rw[← Hs.out];exact jR
  clear hb jR;obtain⟨w3,fy⟩:∃ w3,w3=JA.alloc (.cells #[.string {data:=#[]},.slice none 0 0,.bool false,.slice none 0 0] 40):=⟨_,rfl⟩
  replace HB:Hid (Bel w w3):=by show Below _ _ _;rw[fy];exact ah HB.out _
  have HX:Hid (gF aJ (aU (Pl.bV s kind name key).1) (Pl.bV s kind name key).2 w (.returned (.tuple #[.slice none 0 0,.bool false])) w3):=qA.out _ (Or.inr (Or.inr MU.out)) HB.out;go_upto_region 5 with fail
  rw[← fy];clear fy;cases fd
  ·go_wp2;go_ret2;exact HX.out
  ·go_wp2;go_ret2;exact HX.out
 |some r=>
 rw[jR]at qY;obtain⟨a1,c1,a3,c3,he,_,qK⟩:=qY;subst he;have E2:=Pl.fm jR;have MU:Hid (Pl.bJ (Pl.aj kind) key=some r):=by rw[← Hs.out];exact jR
 have HRK:Hid ((l.getD r Pl.aO).key=key):=sj jR;have AV:Hid ((l.getD r Pl.aO).dflt.length≤4194304):=by
  have e:l.getD r Pl.aO=l[r]:=by simp[E2]
  show _≤_;rw[e];exact It.out _ (List.getElem_mem E2)
 have vK:=uh (qK.ae hb);obtain⟨ru,vN⟩:∃ ru,ru=l.getD r Pl.aO:=⟨_,rfl⟩
 rw[← vN]at HRK AV vK;rw[← vN];have yi:=uh vN;clear vN hb jR qK It E2;obtain⟨w3,fy⟩:∃ w3,w3=JA.alloc (.cells #[.string ru.key,.slice a1 ru.args.length c1,.bool ru.many,.slice a3 ru.dflt.length c3] 40):=⟨_,rfl⟩
 obtain⟨b6,lX⟩:∃ b6,b6=JA.heap.size:=⟨_,rfl⟩
 have qT:Bel JA w3:=by rw[fy];exact ah zR _
 have fk:Hid (aD w3 b6 [.string ru.key,.slice a1 ru.args.length c1,.bool ru.many,.slice a3 ru.dflt.length c3]):=by show aD _ _ _;rw[fy,lX];exact aD.new JA #[.string ru.key,.slice a1 ru.args.length c1,.bool ru.many,.slice a3 ru.dflt.length c3] _ _ rfl
 replace HB:=uh (ai HB.out qT)
 replace cu:=uh (cu.out.ae qT)
 replace vK:=uh (vK.out.ae qT)
 clear qT;go_upto_region 5 with fail
 rw[← fy,← lX];clear fy lX;cases fd
 ·have Ia:Hid (Pl.dJ s kind name=none):=Gq.out;have HX:Hid (gF aJ (aU (Pl.bV s kind name key).1) (Pl.bV s kind name key).2 w (.returned (.tuple #[.slice none 0 0,.bool false])) w3):=qA.out _ (Or.inr (Or.inl Ia.out)) HB.out;go_wp2;go_ret2;exact HX.out
 have HFS:Hid (Pl.dJ s kind name=some q):=Gq.out;have qB:=uh (uR.out q r HVB.out.symm HFS.out MU.out);have qH:q<s.length:=Pl.nG HFS.out;rcases cL (HL.out.ae HB.out) with⟨e0,_⟩|⟨p,o,c,hv,hp,ec,aZ⟩
 ·omega
 rw[← HN.out]at hv ec;injection hv with g1 _ g3
 subst g1;subst g3;obtain⟨ax,cx,dO,dF⟩:=aZ q qH;have vW:(s.getD q Pl.aG).lines.length≤4194304∧∀ x∈(s.getD q Pl.aG).lines,x.ws.length≤4194304:=by
  have e:s.getD q Pl.aG=s[q]:=by simp[qH]
  rw[e];exact jD.out _ (List.getElem_mem qH)
 obtain⟨x,hx⟩:∃ x,x=s.getD q Pl.aG:=⟨_,rfl⟩
 rw[← hx]at dO dF qB vW;have HCM:=uh (fun (X:World) (hX:Bel w3 X)=>zX ru a1 a3 c1 c3 x.lines (.slice ax x.lines.length cx) X (dF.ae hX) vW.1 vW.2 (vK.out.ae hX) AV.out);have GC:Hid (Pl.bV s kind name key=(Pl.bw ru x.lines,true)):=by
  show _=_;rw[qB.out,← Hs.out,← yi.out];unfold Pl.bw;rw[HRK.out]
 have eB:=uh dO;have iI:=uh hp;have dd:(0:Int)≤(q:Int):=by omega
 have de:(q:Int)<(n:Int):=by have:=HN.out;omega
 obtain⟨k,hk⟩:∃ k,k=q:=⟨_,rfl⟩
 subst hk;obtain⟨out,qM⟩:∃ out,out=Pl.bw ru x.lines:=⟨_,rfl⟩
 rw[← qM]at HCM GC;clear hx dO dF aZ vW hp ec qM;go_upto_region 7 with fail
 refine RY.cY w3 zR (VGt b0 p o n vc k w3.heap.size ru a1 a3 ax c1 c3 cx x out) (zv _ _ _ _ _ _ _ _ _ _ _ _ _ _ _ _) (by kernel_rfl) (by kernel_rfl) (by kernel_rfl) (by kernel_rfl) ?_ ?_
 ·intro ii o' ho a X hX hk hd;have zb0:=cu.out.ae hX;have zb0l:=zb0.lt;have zb6:=fk.out.ae hX;have zb6l:=zb6.lt;match ii,ho with
  |0,ho=>
   injection ho with ho;subst ho
   have v12:a.eval (.tmp 12)=.pointer (some ⟨b6,0,none⟩):=(hk 12 (by kernel_rfl)).trans rfl;exact Or.inl ⟨_,X,aq 40 _ rfl b6 0 v12 [.string ru.key,.slice a1 ru.args.length c1,.bool ru.many,.slice a3 ru.dflt.length c3] _ zb6.at_ Try.underlying40 rfl (by kernel_rfl),zR,rfl⟩
  |1,ho=>
   injection ho with ho;subst ho
   have e4:a.tmps[4]?.getD undef=.pointer (some ⟨b0,0,none⟩):=(RY.af a 4).trans ((hk 4 (by kernel_rfl)).trans rfl);exact Or.inl ⟨.pointer (some ⟨b0,0,none⟩),X,by simp[execOp,go_sem,e4],zR,rfl⟩
  |2,ho=>
   injection ho with ho;subst ho
   have e41:a.tmps[41]?.getD undef=.pointer (some ⟨b0,0,none⟩):=(RY.af a 41).trans (hd 1 _ 41 rfl rfl ⟨⟨1,.data⟩,by simp,rfl,rfl⟩);have ycl_:=zb0.get 0 _ rfl;exact Or.inl ⟨.slice (some ⟨p,o,none⟩) n vc,X,by simp[execOp,go_sem,e41,ycl_],zR,rfl⟩
  |3,ho=>
   injection ho with ho;subst ho
   have e10:a.tmps[10]?.getD undef=.int .i64 (k:Int):=(RY.af a 10).trans ((hk 10 (by kernel_rfl)).trans rfl);exact Or.inl ⟨.int .i64 (k:Int),X,by simp[execOp,go_sem,e10],zR,rfl⟩
  |4,ho=>
   injection ho with ho;subst ho
   have e42:a.tmps[42]?.getD undef=.slice (some ⟨p,o,none⟩) n vc:=(RY.af a 42).trans (hd 2 _ 42 rfl rfl ⟨⟨2,.data⟩,by simp,rfl,rfl⟩);have e43:a.tmps[43]?.getD undef=.int .i64 (k:Int):=(RY.af a 43).trans (hd 3 _ 43 rfl rfl ⟨⟨3,.data⟩,by simp,rfl,rfl⟩);exact Or.inl ⟨.pointer (some ⟨p,o+k*3,none⟩),X,by simp[execOp,go_sem,e42,e43,dd,de],zR,rfl⟩
  |5,ho=>
   injection ho with ho;subst ho
   have e44:a.tmps[44]?.getD undef=.pointer (some ⟨p,o+k*3,none⟩):=(RY.af a 44).trans (hd 4 _ 44 rfl rfl ⟨⟨4,.data⟩,by simp,rfl,rfl⟩);exact Or.inl ⟨.pointer (some ⟨p,o+k*3+2,none⟩),X,by simp[execOp,go_sem,e44],zR,rfl⟩
  |6,ho=>
   injection ho with ho;subst ho
   have e45:a.tmps[45]?.getD undef=.pointer (some ⟨p,o+k*3+2,none⟩):=(RY.af a 45).trans (hd 5 _ 45 rfl rfl ⟨⟨5,.data⟩,by simp,rfl,rfl⟩);have ypl_:=zL iI.out hX.size;have ycl_:X.cell? ⟨p,o+k*3+2,none⟩=some (.slice ax x.lines.length cx):=by have q:=aF (aA eB.out iI.out hX) 2 _ rfl;simpa using q
   exact Or.inl ⟨.slice ax x.lines.length cx,X,by simp[execOp,go_sem,e45,ycl_],zR,rfl⟩
  |7,ho=>
   injection ho with ho;subst ho
   have e40:a.tmps[40]?.getD undef=.agg #[.string ru.key,.slice a1 ru.args.length c1,.bool ru.many,.slice a3 ru.dflt.length c3]:=(RY.af a 40).trans (hd 0 _ 40 rfl rfl ⟨⟨0,.data⟩,by simp,rfl,rfl⟩);have e46:a.tmps[46]?.getD undef=.slice ax x.lines.length cx:=(RY.af a 46).trans (hd 6 _ 46 rfl rfl ⟨⟨6,.data⟩,by simp,rfl,rfl⟩);refine Or.inr ⟨38,#[.agg #[.string ru.key,.slice a1 ru.args.length c1,.bool ru.many,.slice a3 ru.dflt.length c3],.slice ax x.lines.length cx],by simp[go_sem,e40,e46],(HCM.out X hX).mono ?_⟩;rintro e W' ⟨v,F,rfl,r,nd,fr,hb⟩;exact⟨_,rfl,hb,v,F,rfl,r,nd,fun b dP=>Nat.le_trans hX.size (fr b dP)⟩
  |8,ho=>
   injection ho with ho;subst ho
   obtain⟨v47,F47,q47,Mc,LR⟩:=hd 7 _ 47 rfl rfl ⟨⟨7,.data⟩,by simp,rfl,rfl⟩;have e47:a.tmps[47]?.getD undef=v47:=(RY.af a 47).trans q47;exact Or.inl ⟨v47,X,by simp[execOp,go_sem,e47],zR,v47,F47,rfl,Mc,LR⟩
  |9,ho=>
   injection ho with ho;subst ho
   exact Or.inl ⟨.bool true,X,by simp[execOp,go_sem],zR,rfl⟩
  |n+10,ho=>simp at ho
 intro X vs hX bd;obtain⟨v8,F8,q8,r8,nd8,fr8⟩:=bd 8 _ 8 rfl rfl;have q9:vs 9=_:=bd 9 _ 9 rfl rfl;simp only[RY.aE,Act.put,List.setIfInBounds_toArray,List.set_cons_zero,List.set_cons_succ];rw[q8,q9];generalize vs 40=s40;generalize vs 41=s41;generalize vs 42=s42;generalize vs 43=s43;generalize vs 44=s44;generalize vs 45=s45;generalize vs 46=s46;generalize vs 47=s47;clear bd q9;have HD:Hid (gF aJ (aU (Pl.bV s kind name key).1) (Pl.bV s kind name key).2 w (.returned (.tuple #[v8,.bool true])) X):=by
  rw[GC.out];exact⟨_,F8,rfl,r8,nd8,fun b hb=>Nat.le_trans HB.out.size (fr8 b hb),ai HB.out hX⟩
 clear q8 r8 nd8 fr8;go_wp2;go_ret2;exact HD.out
end Go.Proofs.Ytmgibmmpopoboaa
