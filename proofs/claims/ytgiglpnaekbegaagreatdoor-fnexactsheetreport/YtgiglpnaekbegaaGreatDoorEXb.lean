import Derived.Lib.Bytealg
import Derived.Lib.IndexLaws
import Derived.Laws.CopyRow
import Derived.Laws.CopyOwn
import Derived.Laws.Externs
import Derived.Lib.Overlaps
import Derived.Deep.AppendLies
import Derived.Lib.AppendZeros
import Derived.Lib.AppendZerosOnto
import Derived.Shelf.RegionOpenPlain
import Derived.Deep.RegionWith
import Derived.Test.YtgiglpnaekbegaaGreatDoorEWe
import Derived.Test.YtgiglpnaekbegaaGreatDoorEKc
import Derived.Test.YtgiglpnaekbegaaGreatDoorRgSt
import Derived.Test.YtgiglpnaekbegaaGreatDoorRgMk
import Derived.Test.YtgiglpnaekbegaaGreatDoorEFm
import Derived.Test.YtgiglpnaekbegaaGreatDoorEIv
namespace Go.Proofs.YtgiglpnaekbegaaGreatDoor
set_option maxRecDepth 8000
set_option maxHeartbeats 40000000
open Go.RowKit Go.Deep
theorem jd (c:UInt8) (w:World):
  Calls Tryz.prog 131 #[.int .u8 c.toNat] w fun e w'=>e=.returned (.bool (Pl.gl c))∧w=w':=by
 go_enter Tryz.func131,Tryz.ntmps131
 go_wp2
 all_goals go_ret
 all_goals exact⟨Pl.ar (by rw[XB];simp[Pl.gl]at*;omega),rfl⟩
theorem vM (c:UInt8) (w:World):
  Calls Tryz.prog 152 #[.int .u8 c.toNat] w fun e w'=>e=.returned (.bool (Pl.ck c))∧w=w':=by
 have HE:Hid (Pl.ck c=(Pl.gl c&&(c.toNat !=32)&&(c.toNat !=35))):=by
  show _=_;rw[XB];simp[Pl.ck,Pl.gl];omega
 obtain⟨B,hB⟩:∃ B,B=Pl.gl c:=⟨_,rfl⟩
 have HC:Hid (Calls Tryz.prog 131 #[.int .u8 c.toNat] w fun e w'=>e=.returned (.bool B)∧w=w'):=by
  rw[hB];exact jd c w
 rw[← hB]at HE;clear hB;go_enter Tryz.func152,Tryz.ntmps152
 cases B
 all_goals go_wp2_with (go_at_call 131;refine HC.out.mono ?_;rintro e w' ⟨rfl,rfl⟩)
 all_goals go_ret
 all_goals exact⟨Pl.ar (by rw[HE.out,XB];simp at*;try omega),rfl⟩
theorem uq (s:ByteArray) (w:World) (hs:s.size≤1048576):
  Calls Tryz.prog 130 #[.agg #[],.string s] w fun e w'=>∃ p,p≤s.size∧s.data.toList.takeWhile Pl.ck=s.data.toList.take p∧e=.returned (.tuple #[.string (s.extract 0 p),.string (s.extract p s.size),.bool (decide (0<p))])∧Bel w w':=by
 go_enter Tryz.func130,Tryz.ntmps130
 go_wp2;go_loop [7] (fun i=>∃ k:Nat,k≤s.size∧i=.int .i64 k∧Hid (∀ j (h:j<s.size),j<k→Pl.ck s[j]=true)) (fun i=>s.size - (intOf i).toNat)
 case atStart=>exact⟨0,zN,rfl,fun j _ h=>by omega⟩
 case round=>
  obtain⟨k,hk,rfl,HA⟩:=hrel;by_cases bq:k<s.size
  ·obtain⟨c,hc⟩:∃ c,c=Pl.ck s[k]:=⟨_,rfl⟩
   have HK:=uh hc;have HC:Hid (∀ w,Calls Tryz.prog 152 #[.int .u8 s[k].toNat] w fun e w'=>e=.returned (.bool c)∧w=w'):=by
    rw[hc];exact fun w=>vM _ w
   clear hc;cases c
   ·go_wp2_with (go_at_call 152;refine(HC.out _).mono ?_;rintro e w' ⟨rfl,rfl⟩)
    have HT:Hid (s.data.toList.takeWhile Pl.ck=s.data.toList.take k):=Pl.qd _ _ (by rw[Pl.aD];exact hk) (fun i hi ID=>HA.out i (by rw[Pl.aD]at hi;exact hi) ID) (fun hh=>HK.out.symm);clear HA HK HC;go_region
    all_goals go_wp2
    all_goals go_ret3
    all_goals refine⟨k,hk,HT.out,rfl, ?_⟩
    all_goals repeat(first|exact zR|refine af ?_ _|refine XF ?_)
   ·go_wp2_with (go_at_call 152;refine(HC.out _).mono ?_;rintro e w' ⟨rfl,rfl⟩)
    go_round
    case rel=>exact⟨k+1,by omega,by go_num,fun j h hj=>by rcases Nat.lt_succ_iff_lt_or_eq.1 hj with q|rfl;exact HA.out j h q;exact HK.out.symm⟩
    case measure=>simp[intOf];omega
  ·have HT:Hid (s.data.toList.takeWhile Pl.ck=s.data.toList.take k):=Pl.qd _ _ (by rw[Pl.aD];exact hk) (fun i hi ID=>HA.out i (by rw[Pl.aD]at hi;exact hi) ID) (fun hh=>absurd (show k<s.size by rw[Pl.aD]at hh;exact hh) bq);clear HA;go_wp2;go_region
   all_goals go_wp2
   all_goals go_ret3
   all_goals refine⟨k,hk,HT.out,rfl, ?_⟩
   all_goals repeat(first|exact zR|refine af ?_ _|refine XF ?_)
theorem Pl.ot {n:Nat} {a b:Bool} (h:a=b):Ending.returned (.tuple #[.int .i64 (n:Nat),.bool a])=.returned (.tuple #[.int .i64 (n:Nat),.bool b]):=by rw[h]
def M3 (p:Nat) (o:Nat) (c:Nat) (b:Nat) (n:Nat) (x:Pl.Bl) (t:Pl.Bl) (ax:Option Addr) (cx:Nat) (r:Int):Nat→Value→World→Prop
 |0,vv,_|1,vv,_|7,vv,_|14,vv,_=>vv=.int .i64 (b:Int)
 |2,vv,_=>vv=.int .i64 (n:Int)
 |3,vv,_|4,vv,_|12,vv,_|13,vv,_|15,vv,_=>vv=.bool true
 |5,vv,_=>vv=.func (.func 72) #[] #[]
 |6,vv,_=>vv=.slice (some ⟨p,o,none⟩) n c
 |8,vv,_=>vv=.pointer (some ⟨p,o+b*3,none⟩)
 |9,vv,_=>vv=.agg #[.string x.kind,.string x.name,.slice ax x.lines.length cx]
 |10,vv,_=>vv=.agg #[.string t.kind,.string t.name,.slice none 0 0]
 |11,vv,_=>vv=.int .i64 r
 |_,_,_=>True
theorem Cs (p:Nat) (o:Nat) (c:Nat) (b:Nat) (n:Nat) (x:Pl.Bl) (t:Pl.Bl) (ax:Option Addr) (cx:Nat) (r:Int):∀ jj vv W W',Bel W W'→M3 p o c b n x t ax cx r jj vv W→M3 p o c b n x t ax cx r jj vv W':=by
 intro jj vv W W' hb h;match jj with
 |0|1|2|3|4|5|6|7|8|9|10|11|12|13|14|15=>exact h
 |n+16=>exact trivial
def N4 (p:Nat) (o:Nat) (c:Nat) (b:Nat) (n:Nat) (x:Pl.Bl) (t:Pl.Bl) (ax:Option Addr) (cx:Nat) (r:Int):Nat→Value→World→Prop
 |0,vv,_|1,vv,_|7,vv,_|14,vv,_=>vv=.int .i64 (b:Int)
 |2,vv,_=>vv=.int .i64 (n:Int)
 |3,vv,_|4,vv,_=>vv=.bool true
 |5,vv,_=>vv=.func (.func 72) #[] #[]
 |6,vv,_=>vv=.slice (some ⟨p,o,none⟩) n c
 |8,vv,_=>vv=.pointer (some ⟨p,o+b*3,none⟩)
 |9,vv,_=>vv=.agg #[.string x.kind,.string x.name,.slice ax x.lines.length cx]
 |10,vv,_=>vv=.agg #[.string t.kind,.string t.name,.slice none 0 0]
 |11,vv,_=>vv=.int .i64 r
 |12,vv,_|13,vv,_|15,vv,_=>vv=.bool false
 |_,_,_=>True
theorem CG (p:Nat) (o:Nat) (c:Nat) (b:Nat) (n:Nat) (x:Pl.Bl) (t:Pl.Bl) (ax:Option Addr) (cx:Nat) (r:Int):∀ jj vv W W',Bel W W'→N4 p o c b n x t ax cx r jj vv W→N4 p o c b n x t ax cx r jj vv W':=by
 intro jj vv W W' hb h;match jj with
 |0|1|2|3|4|5|6|7|8|9|10|11|12|13|14|15=>exact h
 |n+16=>exact trivial
def Np (b:Nat) (n:Nat):Nat→Value→World→Prop
 |0,vv,_|1,vv,_|14,vv,_=>vv=.int .i64 (b:Int)
 |2,vv,_=>vv=.int .i64 (n:Int)
 |3,vv,_|4,vv,_|13,vv,_|15,vv,_=>vv=.bool false
 |5,vv,_|6,vv,_|7,vv,_|8,vv,_|9,vv,_|10,vv,_|11,vv,_|12,vv,_=>vv=undef
 |_,_,_=>True
theorem CE (b:Nat) (n:Nat):∀ jj vv W W',Bel W W'→Np b n jj vv W→Np b n jj vv W':=by
 intro jj vv W W' hb h;match jj with
 |0|1|2|3|4|5|6|7|8|9|10|11|12|13|14|15=>exact h
 |n+16=>exact trivial
theorem Qz  (L:List Pl.Bl) (v:Value) (t:Pl.Bl) (q:Nat) (w:World)  (h:Raw w bL [cq L] [v])  (yS:L.length≤1048576) (hq:q≤L.length) (h1:∀ i,i<q→eE (L.getD i Pl.aG) t<0) (h2:∀ i,q≤i→i<L.length→0≤eE (L.getD i Pl.aG) t):
  Calls Tryz.prog 114 #[v,.agg #[.string t.kind,.string t.name,.slice none 0 0],.func (.func 72) #[] #[]] w fun e w'=>e=.returned (.tuple #[.int .i64 (q:Nat),.bool (decide (q<L.length)&&decide (eE (L.getD q Pl.aG) t=0))])∧Bel w w':=by
 have HH:=uh (Xt h (Xt h1 h2));have Vb:=uh (True.intro);obtain⟨a0,c,ev⟩:=h.aT;subst ev;obtain⟨R,hR⟩:∃ R,R=(decide (q<L.length)&&decide (eE (L.getD q Pl.aG) t=0)):=⟨_,rfl⟩
 have HR:Hid (R=(decide (q<L.length)&&decide (eE (L.getD q Pl.aG) t=0))):=hR;rw[← hR];clear h h1 h2 hR;obtain⟨wa,aP⟩:∃ wa,wa=w.alloc (.cells #[.string t.kind,.string t.name,.slice none 0 0] 58):=⟨_,rfl⟩
 obtain⟨b0,Ba⟩:∃ b0,b0=w.heap.size:=⟨_,rfl⟩
 have D4:Hid (Bel w wa):=by show Below _ _ _;rw[aP];exact af zR _
 have fe:Hid (au wa b0 [.string t.kind,.string t.name,.slice none 0 0]):=by show au _ _ _;rw[aP,Ba];exact au.new w #[.string t.kind,.string t.name,.slice none 0 0] _ _ rfl
 obtain⟨n,hn⟩:∃ n,n=L.length:=⟨_,rfl⟩
 have HN:=uh hn;rw[← hn]at HR hq yS;rw[← hn];clear hn;go_enter Tryz.func114,Tryz.ntmps114
 go_upto_region 1 with fail
 rw[← aP,← Ba];clear aP Ba;go_wp2_with fail
 go_loopw [9,10] (fun i j wr=>∃ a b:Nat,i=.int .i64 (a:Nat)∧j=.int .i64 (b:Nat)∧a≤q∧q≤b∧b≤n∧Bel wa wr) (fun i j _=>(intOf j).toNat - (intOf i).toNat)
 case atStart=>exact⟨0,n,rfl,rfl,zN,hq,zE,zR⟩
 case round=>
  obtain⟨a,b,rfl,rfl,ha,hb,jo,hW⟩:=hrel;have oX:Hid (Bel w wr):=ae D4.out hW;have wD:=uh hW;clear hW;by_cases bq:a<b
  ·obtain⟨m,hm⟩:∃ m,m=(a+b) / 2:=⟨_,rfl⟩
   have lO:a≤m:=by omega
   have Pd:m<b:=by omega
   obtain⟨x,hx⟩:∃ x,x=L.getD m Pl.aG:=⟨_,rfl⟩
   have sH:=uh (wD.out.drew);have kx:=uh (oX.out.drew);have y0:wr.drew.cell? ⟨b0,0,none⟩=some (.string t.kind):=(fe.out.later wD.out.drew).get 0 _ rfl;have y1:wr.drew.cell? ⟨b0,1,none⟩=some (.string t.name):=(fe.out.later wD.out.drew).get 1 _ rfl;have y2:wr.drew.cell? ⟨b0,2,none⟩=some (.slice none 0 0):=(fe.out.later wD.out.drew).get 2 _ rfl;have yl:=(fe.out.later wD.out.drew).lt;rcases cN HH.out.1 with⟨e0,_⟩|⟨p,o,c',hv,hp,_,aE⟩
   ·have:=HN.out;omega
   injection hv with g1 _ g3
   subst g1;subst g3;obtain⟨ax,cx,hg,dH⟩:=aE m (by have:=HN.out;omega);rw[← hx]at hg dH;have eC:=aj hg hp oX.out.drew;have LW:p<wr.drew.heap.size:=zL hp oX.out.drew.size;have c0:wr.drew.cell? ⟨p,o+m*3,none⟩=some (.string x.kind):=aF eC 0 _ rfl;have c1:wr.drew.cell? ⟨p,o+m*3+1,none⟩=some (.string x.name):=aF eC 1 _ rfl;have c2:wr.drew.cell? ⟨p,o+m*3+2,none⟩=some (.slice ax x.lines.length cx):=aF eC 2 _ rfl;obtain⟨r,hr⟩:∃ r,r=eE x t:=⟨_,rfl⟩
   have nJ:Hid (∀ W,Bel w W→Calls Tryz.prog 72 #[.agg #[.string x.kind,.string x.name,.slice ax x.lines.length cx],.agg #[.string t.kind,.string t.name,.slice none 0 0]] W fun e w'=>e=.returned (.int .i64 r)∧Bel W w'):=fun W _=>by rw[hr];exact Ao _ _ _ _ _ _ W
   have HP:Hid ((r<0→m<q)∧(¬ r<0→q≤m)):=by
    refine⟨fun hz=> ?_,fun hz=> ?_⟩
    ·refine Nat.lt_of_not_le fun hh=> ?_;have:=HH.out.2.2 m hh (by have:=HN.out;omega);rw[← hx,← hr]at this;omega
    ·refine YH fun hh=> ?_;have:=HH.out.2.1 m hh;rw[← hx,← hr]at this;exact hz this
   have Ot:Hid (((a:Int)+(b:Int)) / 2=(m:Int)):=by show _=_;omega
   clear hr aE hg eC dH hx hm;have lG:(0:Int)≤(m:Int):=by omega
   have tg:(m:Int)<(n:Int):=by omega
   by_cases hz:r<0
   ·have HE:Hid (m<q):=HP.out.1 hz;go_wp2_with fail
    rw[Ot.out];refine dS 6 (by kernel_rfl) (by kernel_rfl) ?_;intro W pW;rw[← pW]at LW sH kx yl y0 y1 y2 c0 c1 c2;simp only[Ye,YL,Yq,Ya];clear pW;have HX:=uh (nJ.out W kx.out);repeat still_step
    refine wpStill_nil ?_;go_wp2_with (go_at_call 72;refine HX.out.mono ?_;rintro e w2 ⟨rfl,dD⟩)
    go_roundw
    case rel=>exact⟨m+1,b,by go_num,rfl,HE.out,hb,jo,ae sH.out dD⟩
    case measure=>simp[intOf];omega
   ·have HE:Hid (q≤m):=HP.out.2 hz;have Sq:0≤r:=by omega
    go_wp2_with fail
    rw[Ot.out];refine dS 6 (by kernel_rfl) (by kernel_rfl) ?_;intro W pW;rw[← pW]at LW sH kx yl y0 y1 y2 c0 c1 c2;simp only[Ye,YL,Yq,Ya];clear pW;have HX:=uh (nJ.out W kx.out);repeat still_step
    refine wpStill_nil ?_;go_wp2_with (go_at_call 72;refine HX.out.mono ?_;rintro e w2 ⟨rfl,dD⟩)
    go_roundw
    case rel=>exact⟨a,m,rfl,rfl,ha,HE.out,by omega,ae sH.out dD⟩
    case measure=>simp[intOf];omega
  ·obtain rfl:a=q:=by omega
   obtain rfl:b=a:=by omega
   have aU:(0:Int)≤(b:Int):=by omega
   have HK:=uh (fe.out.later wD.out);by_cases eH:b<n
   ·have kr:(b:Int)<(n:Int):=by omega
    obtain⟨x,hx⟩:∃ x,x=L.getD b Pl.aG:=⟨_,rfl⟩
    rcases cN HH.out.1 with⟨e0,_⟩|⟨p,o,c',hv,hp,_,aE⟩
    ·have:=HN.out;omega
    injection hv with g1 _ g3
    subst g1;subst g3;obtain⟨ax,cx,hg,dH⟩:=aE b (by have:=HN.out;omega);rw[← hx]at hg dH;have cU:=uh (aj hg hp oX.out);have de:Hid (p<wr.heap.size):=zL hp oX.out.size;obtain⟨r,hr⟩:∃ r,r=eE x t:=⟨_,rfl⟩
    have nJ:Hid (∀ W,Bel w W→Calls Tryz.prog 72 #[.agg #[.string x.kind,.string x.name,.slice ax x.lines.length cx],.agg #[.string t.kind,.string t.name,.slice none 0 0]] W fun e w'=>e=.returned (.int .i64 r)∧Bel W w'):=fun W _=>by rw[hr];exact Ao _ _ _ _ _ _ W
    have HX:Hid (∀ X,Bel wr X→Calls Tryz.prog 72 #[.agg #[.string x.kind,.string x.name,.slice ax x.lines.length cx],.agg #[.string t.kind,.string t.name,.slice none 0 0]] X fun e w'=>e=.returned (.int .i64 r)∧Bel X w'):=fun X hX=>nJ.out X (ae oX.out hX);have zd:Hid (R=decide (r=0)):=by show R=_;rw[HR.out,hr,hx];simp[eH]
    clear hr aE hg dH hx;go_upto_region 8 with fail
    by_cases hz:r=0
    ·have nV:Hid (R=true):=by show R=_;rw[zd.out,decide_eq_true hz]
     refine RY.aM wr zR (M3 p o c b n x t ax cx r) (Cs _ _ _ _ _ _ _ _ _ _) (by kernel_rfl) (by kernel_rfl) (by kernel_rfl) (by kernel_rfl) ?_ ?_
     ·intro ii o' ho a X hX hk hd;have zb0:=HK.out.later hX;have zb0l:=zb0.lt;match ii,ho with
      |0,rfl|1,rfl=>
       exact RY.n (RY.p (.int .i64 (b:Int)) (by simp[execOp,go_sem,RY.K hk 9 (.int .i64 (b:Int))]))
      |2,rfl=>
       exact RY.n (RY.p (.int .i64 (n:Int)) (by simp[execOp,go_sem,RY.K hk 8 (.int .i64 (n:Int))]))
      |3,rfl=>
       exact RY.n (RY.p (.bool true) (by simp[execOp,go_sem,RY.E hd 1 36,RY.E hd 2 37,kr]))
      |4,rfl=>
       exact RY.n (RY.p (.bool true) (by simp[execOp,go_sem,RY.E hd 3 38]))
      |5,rfl=>
       exact RY.on hd 4 39 (RY.p (.func (.func 72) #[] #[]) (by simp[execOp,go_sem,RY.K hk 2 (.func (.func 72) #[] #[])]))
      |6,rfl=>
       exact RY.on hd 4 39 (RY.p (.slice (some ⟨p,o,none⟩) n c) (by simp[execOp,go_sem,RY.K hk 0 (.slice (some ⟨p,o,none⟩) n c)]))
      |7,rfl=>
       exact RY.on hd 4 39 (RY.p (.int .i64 (b:Int)) (by simp[execOp,go_sem,RY.K hk 9 (.int .i64 (b:Int))]))
      |8,rfl=>
       exact RY.on hd 4 39 (RY.p (.pointer (some ⟨p,o+b*3,none⟩)) (by simp[execOp,go_sem,RY.E hd 6 41,RY.E hd 7 42,aU,kr]))
      |9,rfl=>
       have gd:=hd 4 _ 39 rfl rfl ⟨⟨4,.guard⟩,by simp,rfl,rfl⟩;have v43:a.eval (.tmp 43)=.pointer (some ⟨p,o+b*3,none⟩):=hd 8 _ 43 rfl rfl ⟨⟨8,.data⟩,by simp,rfl,rfl⟩;exact No ⟨(RY.bg rfl rfl rfl gd).trans rfl,No ⟨_,X,ak 58 _ rfl p (o+b*3) v43 [.string x.kind,.string x.name,.slice ax x.lines.length cx] _ (aj cU.out de.out hX) Tryz.underlying58 rfl (by kernel_rfl),zR,rfl⟩⟩
      |10,rfl=>
       have gd:=hd 4 _ 39 rfl rfl ⟨⟨4,.guard⟩,by simp,rfl,rfl⟩;have v4:a.eval (.tmp 4)=.pointer (some ⟨b0,0,none⟩):=(hk 4 (by kernel_rfl)).trans rfl;exact No ⟨(RY.bg rfl rfl rfl gd).trans rfl,No ⟨_,X,ak 58 _ rfl b0 0 v4 [.string t.kind,.string t.name,.slice none 0 0] _ zb0.at_ Tryz.underlying58 rfl (by kernel_rfl),zR,rfl⟩⟩
      |11,rfl=>
       have e40:=RY.E hd 5 40;have e44:=RY.E hd 9 44;have e45:=RY.E hd 10 45;refine RY.on hd 4 39 (.inr ⟨72,#[.agg #[.string x.kind,.string x.name,.slice ax x.lines.length cx],.agg #[.string t.kind,.string t.name,.slice none 0 0]],by simp[go_sem,e40,e44,e45],(HX.out X hX).mono ?_⟩);rintro e W' ⟨rfl,hb⟩;exact⟨_,rfl,hb,rfl⟩
      |12,rfl=>
       exact RY.on hd 4 39 (RY.p (.bool true) (by simp[execOp,go_sem,RY.E hd 11 46,hz]))
      |13,rfl=>
       exact RY.n (RY.p (.bool true) (by simp[execOp,go_sem,RY.E hd 4 39,RY.E hd 12 47]))
      |14,rfl=>
       exact RY.n (RY.p (.int .i64 (b:Int)) (by simp[execOp,go_sem,RY.E hd 0 35]))
      |15,rfl=>
       exact RY.n (RY.p (.bool true) (by simp[execOp,go_sem,RY.E hd 13 48]))
      |n+16,ho=>simp at ho
     intro X vs hX bn;have q6:vs 6=_:=bn 14 _ 6 rfl rfl;have q7:vs 7=_:=bn 15 _ 7 rfl rfl;simp only[RY.aC,Act.put,so,As,An];rw[q6,q7];generalize vs 35=nP,vs 36=mU,vs 37=nS,vs 38=mT,vs 39=nW,vs 40=s40,vs 41=s41,vs 42=s42,vs 43=s43,vs 44=s44,vs 45=s45,vs 46=s46,vs 47=s47,vs 48=s48;clear bn q6 q7;go_wp2;go_ret2;refine⟨Pl.ot nV.out.symm,ae oX.out hX⟩
    ·have nV:Hid (R=false):=by show R=_;rw[zd.out,decide_eq_false hz]
     refine RY.aM wr zR (N4 p o c b n x t ax cx r) (CG _ _ _ _ _ _ _ _ _ _) (by kernel_rfl) (by kernel_rfl) (by kernel_rfl) (by kernel_rfl) ?_ ?_
     ·intro ii o' ho a X hX hk hd;have zb0:=HK.out.later hX;have zb0l:=zb0.lt;match ii,ho with
      |0,rfl|1,rfl=>
       exact RY.n (RY.p (.int .i64 (b:Int)) (by simp[execOp,go_sem,RY.K hk 9 (.int .i64 (b:Int))]))
      |2,rfl=>
       exact RY.n (RY.p (.int .i64 (n:Int)) (by simp[execOp,go_sem,RY.K hk 8 (.int .i64 (n:Int))]))
      |3,rfl=>
       exact RY.n (RY.p (.bool true) (by simp[execOp,go_sem,RY.E hd 1 36,RY.E hd 2 37,kr]))
      |4,rfl=>
       exact RY.n (RY.p (.bool true) (by simp[execOp,go_sem,RY.E hd 3 38]))
      |5,rfl=>
       exact RY.on hd 4 39 (RY.p (.func (.func 72) #[] #[]) (by simp[execOp,go_sem,RY.K hk 2 (.func (.func 72) #[] #[])]))
      |6,rfl=>
       exact RY.on hd 4 39 (RY.p (.slice (some ⟨p,o,none⟩) n c) (by simp[execOp,go_sem,RY.K hk 0 (.slice (some ⟨p,o,none⟩) n c)]))
      |7,rfl=>
       exact RY.on hd 4 39 (RY.p (.int .i64 (b:Int)) (by simp[execOp,go_sem,RY.K hk 9 (.int .i64 (b:Int))]))
      |8,rfl=>
       exact RY.on hd 4 39 (RY.p (.pointer (some ⟨p,o+b*3,none⟩)) (by simp[execOp,go_sem,RY.E hd 6 41,RY.E hd 7 42,aU,kr]))
      |9,rfl=>
       have gd:=hd 4 _ 39 rfl rfl ⟨⟨4,.guard⟩,by simp,rfl,rfl⟩;have v43:a.eval (.tmp 43)=.pointer (some ⟨p,o+b*3,none⟩):=hd 8 _ 43 rfl rfl ⟨⟨8,.data⟩,by simp,rfl,rfl⟩;exact No ⟨(RY.bg rfl rfl rfl gd).trans rfl,No ⟨_,X,ak 58 _ rfl p (o+b*3) v43 [.string x.kind,.string x.name,.slice ax x.lines.length cx] _ (aj cU.out de.out hX) Tryz.underlying58 rfl (by kernel_rfl),zR,rfl⟩⟩
      |10,rfl=>
       have gd:=hd 4 _ 39 rfl rfl ⟨⟨4,.guard⟩,by simp,rfl,rfl⟩;have v4:a.eval (.tmp 4)=.pointer (some ⟨b0,0,none⟩):=(hk 4 (by kernel_rfl)).trans rfl;exact No ⟨(RY.bg rfl rfl rfl gd).trans rfl,No ⟨_,X,ak 58 _ rfl b0 0 v4 [.string t.kind,.string t.name,.slice none 0 0] _ zb0.at_ Tryz.underlying58 rfl (by kernel_rfl),zR,rfl⟩⟩
      |11,rfl=>
       have e40:=RY.E hd 5 40;have e44:=RY.E hd 9 44;have e45:=RY.E hd 10 45;refine RY.on hd 4 39 (.inr ⟨72,#[.agg #[.string x.kind,.string x.name,.slice ax x.lines.length cx],.agg #[.string t.kind,.string t.name,.slice none 0 0]],by simp[go_sem,e40,e44,e45],(HX.out X hX).mono ?_⟩);rintro e W' ⟨rfl,hb⟩;exact⟨_,rfl,hb,rfl⟩
      |12,rfl=>
       exact RY.on hd 4 39 (RY.p (.bool false) (by simp[execOp,go_sem,RY.E hd 11 46,hz]))
      |13,rfl=>
       exact RY.n (RY.p (.bool false) (by simp[execOp,go_sem,RY.E hd 4 39,RY.E hd 12 47]))
      |14,rfl=>
       exact RY.n (RY.p (.int .i64 (b:Int)) (by simp[execOp,go_sem,RY.E hd 0 35]))
      |15,rfl=>
       exact RY.n (RY.p (.bool false) (by simp[execOp,go_sem,RY.E hd 13 48]))
      |n+16,ho=>simp at ho
     intro X vs hX bn;have q6:vs 6=_:=bn 14 _ 6 rfl rfl;have q7:vs 7=_:=bn 15 _ 7 rfl rfl;simp only[RY.aC,Act.put,so,As,An];rw[q6,q7];generalize vs 35=nP,vs 36=mU,vs 37=nS,vs 38=mT,vs 39=nW,vs 40=s40,vs 41=s41,vs 42=s42,vs 43=s43,vs 44=s44,vs 45=s45,vs 46=s46,vs 47=s47,vs 48=s48;clear bn q6 q7;go_wp2;go_ret2;refine⟨Pl.ot nV.out.symm,ae oX.out hX⟩
   ·have kr:¬ ((b:Int)<(n:Int)):=by omega
    have nV:Hid (R=false):=by show R=_;rw[HR.out];simp[eH]
    go_upto_region 8 with fail
    refine RY.aM wr zR (Np b n) (CE _ _) (by kernel_rfl) (by kernel_rfl) (by kernel_rfl) (by kernel_rfl) ?_ ?_
    ·intro ii o' ho a X hX hk hd;have zb0:=HK.out.later hX;have zb0l:=zb0.lt;match ii,ho with
     |0,rfl|1,rfl=>
      exact RY.n (RY.p (.int .i64 (b:Int)) (by simp[execOp,go_sem,RY.K hk 9 (.int .i64 (b:Int))]))
     |2,rfl=>
      exact RY.n (RY.p (.int .i64 (n:Int)) (by simp[execOp,go_sem,RY.K hk 8 (.int .i64 (n:Int))]))
     |3,rfl=>
      exact RY.n (RY.p (.bool false) (by simp[execOp,go_sem,RY.E hd 1 36,RY.E hd 2 37,kr]))
     |4,rfl=>
      exact RY.n (RY.p (.bool false) (by simp[execOp,go_sem,RY.E hd 3 38]))
     |5,rfl|6,rfl|7,rfl|8,rfl|9,rfl|10,rfl|11,rfl|12,rfl=>
      exact RY.off hd 4 39
     |13,rfl=>
      exact RY.n (RY.p (.bool false) (by simp[execOp,go_sem,RY.E hd 4 39,RY.E hd 12 47]))
     |14,rfl=>
      exact RY.n (RY.p (.int .i64 (b:Int)) (by simp[execOp,go_sem,RY.E hd 0 35]))
     |15,rfl=>
      exact RY.n (RY.p (.bool false) (by simp[execOp,go_sem,RY.E hd 13 48]))
     |n+16,ho=>simp at ho
    intro X vs hX bn;have q6:vs 6=_:=bn 14 _ 6 rfl rfl;have q7:vs 7=_:=bn 15 _ 7 rfl rfl;simp only[RY.aC,Act.put,so,As,An];rw[q6,q7];generalize vs 35=nP,vs 36=mU,vs 37=nS,vs 38=mT,vs 39=nW,vs 40=s40,vs 41=s41,vs 42=s42,vs 43=s43,vs 44=s44,vs 45=s45,vs 46=s46,vs 47=s47,vs 48=s48;clear bn q6 q7;go_wp2;go_ret2;refine⟨Pl.ot nV.out.symm,ae oX.out hX⟩
def NY (p:Nat) (o:Nat) (c:Nat) (b:Nat) (n:Nat) (l:List Pl.Ru) (va:Option Addr) (vc:Nat) (x:Pl.Ln) (t:Pl.Ln) (ax:Option Addr) (at_:Option Addr) (cx:Nat) (ct:Nat) (r:Int):Nat→Value→World→Prop
 |0,vv,_|1,vv,_|7,vv,_|14,vv,_=>vv=.int .i64 (b:Int)
 |2,vv,_=>vv=.int .i64 (n:Int)
 |3,vv,_|4,vv,_|12,vv,_|13,vv,_|15,vv,_=>vv=.bool true
 |5,vv,_=>vv=.func (.func 100) #[.agg #[.slice va l.length vc]] #[]
 |6,vv,_=>vv=.slice (some ⟨p,o,none⟩) n c
 |8,vv,_=>vv=.pointer (some ⟨p,o+b*2,none⟩)
 |9,vv,_=>vv=.agg #[.string x.key,.slice ax x.ws.length cx]
 |10,vv,_=>vv=.agg #[.string t.key,.slice at_ t.ws.length ct]
 |11,vv,_=>vv=.int .i64 r
 |_,_,_=>True
theorem Dv (p:Nat) (o:Nat) (c:Nat) (b:Nat) (n:Nat) (l:List Pl.Ru) (va:Option Addr) (vc:Nat) (x:Pl.Ln) (t:Pl.Ln) (ax:Option Addr) (at_:Option Addr) (cx:Nat) (ct:Nat) (r:Int):∀ jj vv W W',Bel W W'→NY p o c b n l va vc x t ax at_ cx ct r jj vv W→NY p o c b n l va vc x t ax at_ cx ct r jj vv W':=by
 intro jj vv W W' hb h;match jj with
 |0|1|2|3|4|5|6|7|8|9|10|11|12|13|14|15=>exact h
 |n+16=>exact trivial
def Nn (p:Nat) (o:Nat) (c:Nat) (b:Nat) (n:Nat) (l:List Pl.Ru) (va:Option Addr) (vc:Nat) (x:Pl.Ln) (t:Pl.Ln) (ax:Option Addr) (at_:Option Addr) (cx:Nat) (ct:Nat) (r:Int):Nat→Value→World→Prop
 |0,vv,_|1,vv,_|7,vv,_|14,vv,_=>vv=.int .i64 (b:Int)
 |2,vv,_=>vv=.int .i64 (n:Int)
 |3,vv,_|4,vv,_=>vv=.bool true
 |5,vv,_=>vv=.func (.func 100) #[.agg #[.slice va l.length vc]] #[]
 |6,vv,_=>vv=.slice (some ⟨p,o,none⟩) n c
 |8,vv,_=>vv=.pointer (some ⟨p,o+b*2,none⟩)
 |9,vv,_=>vv=.agg #[.string x.key,.slice ax x.ws.length cx]
 |10,vv,_=>vv=.agg #[.string t.key,.slice at_ t.ws.length ct]
 |11,vv,_=>vv=.int .i64 r
 |12,vv,_|13,vv,_|15,vv,_=>vv=.bool false
 |_,_,_=>True
theorem C7 (p:Nat) (o:Nat) (c:Nat) (b:Nat) (n:Nat) (l:List Pl.Ru) (va:Option Addr) (vc:Nat) (x:Pl.Ln) (t:Pl.Ln) (ax:Option Addr) (at_:Option Addr) (cx:Nat) (ct:Nat) (r:Int):∀ jj vv W W',Bel W W'→Nn p o c b n l va vc x t ax at_ cx ct r jj vv W→Nn p o c b n l va vc x t ax at_ cx ct r jj vv W':=by
 intro jj vv W W' hb h;match jj with
 |0|1|2|3|4|5|6|7|8|9|10|11|12|13|14|15=>exact h
 |n+16=>exact trivial
def N5 (b:Nat) (n:Nat):Nat→Value→World→Prop
 |0,vv,_|1,vv,_|14,vv,_=>vv=.int .i64 (b:Int)
 |2,vv,_=>vv=.int .i64 (n:Int)
 |3,vv,_|4,vv,_|13,vv,_|15,vv,_=>vv=.bool false
 |5,vv,_|6,vv,_|7,vv,_|8,vv,_|9,vv,_|10,vv,_|11,vv,_|12,vv,_=>vv=undef
 |_,_,_=>True
theorem C5 (b:Nat) (n:Nat):∀ jj vv W W',Bel W W'→N5 b n jj vv W→N5 b n jj vv W':=by
 intro jj vv W W' hb h;match jj with
 |0|1|2|3|4|5|6|7|8|9|10|11|12|13|14|15=>exact h
 |n+16=>exact trivial
theorem Qn (l:List Pl.Ru) (va:Option Addr) (vc:Nat) (wL:l.length≤100) (L:List Pl.Ln) (v:Value) (t:Pl.Ln) (at_:Option Addr) (ct:Nat) (q:Nat) (w:World) (sO:Raw w [.row 75 aB] [bV l] [.slice va l.length vc]) (h:Raw w aV [bD L] [v]) (ht:Raw w bm [.row t.ws.length (txD t.ws)] [.slice at_ t.ws.length ct]) (yS:L.length≤1048576) (hq:q≤L.length) (h1:∀ i,i<q→cQ l (L.getD i Pl.aK) t<0) (h2:∀ i,q≤i→i<L.length→0≤cQ l (L.getD i Pl.aK) t):
  Calls Tryz.prog 117 #[v,.agg #[.string t.key,.slice at_ t.ws.length ct],.func (.func 100) #[.agg #[.slice va l.length vc]] #[]] w fun e w'=>e=.returned (.tuple #[.int .i64 (q:Nat),.bool (decide (q<L.length)&&decide (cQ l (L.getD q Pl.aK) t=0))])∧Bel w w':=by
 have HH:=uh (Xt h (Xt h1 h2));have jm:=uh sO;have Vb:=uh ht;obtain⟨a0,c,ev⟩:=h.aT;subst ev;obtain⟨R,hR⟩:∃ R,R=(decide (q<L.length)&&decide (cQ l (L.getD q Pl.aK) t=0)):=⟨_,rfl⟩
 have HR:Hid (R=(decide (q<L.length)&&decide (cQ l (L.getD q Pl.aK) t=0))):=hR;rw[← hR];clear h h1 h2 hR sO ht;obtain⟨wa,aP⟩:∃ wa,wa=w.alloc (.cells #[.string t.key,.slice at_ t.ws.length ct] 41):=⟨_,rfl⟩
 obtain⟨b0,Ba⟩:∃ b0,b0=w.heap.size:=⟨_,rfl⟩
 have D4:Hid (Bel w wa):=by show Below _ _ _;rw[aP];exact af zR _
 have fe:Hid (au wa b0 [.string t.key,.slice at_ t.ws.length ct]):=by show au _ _ _;rw[aP,Ba];exact au.new w #[.string t.key,.slice at_ t.ws.length ct] _ _ rfl
 obtain⟨n,hn⟩:∃ n,n=L.length:=⟨_,rfl⟩
 have HN:=uh hn;rw[← hn]at HR hq yS;rw[← hn];clear hn;go_enter Tryz.func117,Tryz.ntmps117
 go_upto_region 1 with fail
 rw[← aP,← Ba];clear aP Ba;go_wp2_with fail
 go_loopw [9,10] (fun i j wr=>∃ a b:Nat,i=.int .i64 (a:Nat)∧j=.int .i64 (b:Nat)∧a≤q∧q≤b∧b≤n∧Bel wa wr) (fun i j _=>(intOf j).toNat - (intOf i).toNat)
 case atStart=>exact⟨0,n,rfl,rfl,zN,hq,zE,zR⟩
 case round=>
  obtain⟨a,b,rfl,rfl,ha,hb,jo,hW⟩:=hrel;have oX:Hid (Bel w wr):=ae D4.out hW;have wD:=uh hW;clear hW;by_cases bq:a<b
  ·obtain⟨m,hm⟩:∃ m,m=(a+b) / 2:=⟨_,rfl⟩
   have lO:a≤m:=by omega
   have Pd:m<b:=by omega
   obtain⟨x,hx⟩:∃ x,x=L.getD m Pl.aK:=⟨_,rfl⟩
   have sH:=uh (wD.out.drew);have kx:=uh (oX.out.drew);have y0:wr.drew.cell? ⟨b0,0,none⟩=some (.string t.key):=(fe.out.later wD.out.drew).get 0 _ rfl;have y1:wr.drew.cell? ⟨b0,1,none⟩=some (.slice at_ t.ws.length ct):=(fe.out.later wD.out.drew).get 1 _ rfl;have yl:=(fe.out.later wD.out.drew).lt;rcases bO HH.out.1 with⟨e0,_⟩|⟨p,o,c',hv,hp,_,aE⟩
   ·have:=HN.out;omega
   injection hv with g1 _ g3
   subst g1;subst g3;obtain⟨ax,cx,hg,dH⟩:=aE m (by have:=HN.out;omega);rw[← hx]at hg dH;have eC:=aj hg hp oX.out.drew;have LW:p<wr.drew.heap.size:=zL hp oX.out.drew.size;have c0:wr.drew.cell? ⟨p,o+m*2,none⟩=some (.string x.key):=aF eC 0 _ rfl;have c1:wr.drew.cell? ⟨p,o+m*2+1,none⟩=some (.slice ax x.ws.length cx):=aF eC 1 _ rfl;obtain⟨r,hr⟩:∃ r,r=cQ l x t:=⟨_,rfl⟩
   have nJ:Hid (∀ W,Bel w W→Calls Tryz.prog 100 #[.agg #[.slice va l.length vc],.agg #[.string x.key,.slice ax x.ws.length cx],.agg #[.string t.key,.slice at_ t.ws.length ct]] W fun e w'=>e=.returned (.int .i64 r)∧Bel W w'):=fun W hb=>by
     rw[hr];exact uV l va vc x t ax at_ cx ct W wL (jm.out.later hb) (dH.later hb) (Vb.out.later hb)
   have HP:Hid ((r<0→m<q)∧(¬ r<0→q≤m)):=by
    refine⟨fun hz=> ?_,fun hz=> ?_⟩
    ·refine Nat.lt_of_not_le fun hh=> ?_;have:=HH.out.2.2 m hh (by have:=HN.out;omega);rw[← hx,← hr]at this;omega
    ·refine YH fun hh=> ?_;have:=HH.out.2.1 m hh;rw[← hx,← hr]at this;exact hz this
   have Ot:Hid (((a:Int)+(b:Int)) / 2=(m:Int)):=by show _=_;omega
   clear hr aE hg eC dH hx hm;have lG:(0:Int)≤(m:Int):=by omega
   have tg:(m:Int)<(n:Int):=by omega
   by_cases hz:r<0
   ·have HE:Hid (m<q):=HP.out.1 hz;go_wp2_with fail
    rw[Ot.out];refine dS 6 (by kernel_rfl) (by kernel_rfl) ?_;intro W pW;rw[← pW]at LW sH kx yl y0 y1 c0 c1;simp only[Ye,YL,Yq,Ya];clear pW;have HX:=uh (nJ.out W kx.out);repeat still_step
    refine wpStill_nil ?_;go_wp2_with (go_at_call 100;refine HX.out.mono ?_;rintro e w2 ⟨rfl,dD⟩)
    go_roundw
    case rel=>exact⟨m+1,b,by go_num,rfl,HE.out,hb,jo,ae sH.out dD⟩
    case measure=>simp[intOf];omega
   ·have HE:Hid (q≤m):=HP.out.2 hz;have Sq:0≤r:=by omega
    go_wp2_with fail
    rw[Ot.out];refine dS 6 (by kernel_rfl) (by kernel_rfl) ?_;intro W pW;rw[← pW]at LW sH kx yl y0 y1 c0 c1;simp only[Ye,YL,Yq,Ya];clear pW;have HX:=uh (nJ.out W kx.out);repeat still_step
    refine wpStill_nil ?_;go_wp2_with (go_at_call 100;refine HX.out.mono ?_;rintro e w2 ⟨rfl,dD⟩)
    go_roundw
    case rel=>exact⟨a,m,rfl,rfl,ha,HE.out,by omega,ae sH.out dD⟩
    case measure=>simp[intOf];omega
  ·obtain rfl:a=q:=by omega
   obtain rfl:b=a:=by omega
   have aU:(0:Int)≤(b:Int):=by omega
   have HK:=uh (fe.out.later wD.out);by_cases eH:b<n
   ·have kr:(b:Int)<(n:Int):=by omega
    obtain⟨x,hx⟩:∃ x,x=L.getD b Pl.aK:=⟨_,rfl⟩
    rcases bO HH.out.1 with⟨e0,_⟩|⟨p,o,c',hv,hp,_,aE⟩
    ·have:=HN.out;omega
    injection hv with g1 _ g3
    subst g1;subst g3;obtain⟨ax,cx,hg,dH⟩:=aE b (by have:=HN.out;omega);rw[← hx]at hg dH;have cU:=uh (aj hg hp oX.out);have de:Hid (p<wr.heap.size):=zL hp oX.out.size;obtain⟨r,hr⟩:∃ r,r=cQ l x t:=⟨_,rfl⟩
    have nJ:Hid (∀ W,Bel w W→Calls Tryz.prog 100 #[.agg #[.slice va l.length vc],.agg #[.string x.key,.slice ax x.ws.length cx],.agg #[.string t.key,.slice at_ t.ws.length ct]] W fun e w'=>e=.returned (.int .i64 r)∧Bel W w'):=fun W hb=>by
     rw[hr];exact uV l va vc x t ax at_ cx ct W wL (jm.out.later hb) (dH.later hb) (Vb.out.later hb)
    have HX:Hid (∀ X,Bel wr X→Calls Tryz.prog 100 #[.agg #[.slice va l.length vc],.agg #[.string x.key,.slice ax x.ws.length cx],.agg #[.string t.key,.slice at_ t.ws.length ct]] X fun e w'=>e=.returned (.int .i64 r)∧Bel X w'):=fun X hX=>nJ.out X (ae oX.out hX);have zd:Hid (R=decide (r=0)):=by show R=_;rw[HR.out,hr,hx];simp[eH]
    clear hr aE hg dH hx;go_upto_region 8 with fail
    by_cases hz:r=0
    ·have nV:Hid (R=true):=by show R=_;rw[zd.out,decide_eq_true hz]
     refine RY.aM wr zR (NY p o c b n l va vc x t ax at_ cx ct r) (Dv _ _ _ _ _ _ _ _ _ _ _ _ _ _ _) (by kernel_rfl) (by kernel_rfl) (by kernel_rfl) (by kernel_rfl) ?_ ?_
     ·intro ii o' ho a X hX hk hd;have zb0:=HK.out.later hX;have zb0l:=zb0.lt;match ii,ho with
      |0,rfl|1,rfl=>
       exact RY.n (RY.p (.int .i64 (b:Int)) (by simp[execOp,go_sem,RY.K hk 9 (.int .i64 (b:Int))]))
      |2,rfl=>
       exact RY.n (RY.p (.int .i64 (n:Int)) (by simp[execOp,go_sem,RY.K hk 8 (.int .i64 (n:Int))]))
      |3,rfl=>
       exact RY.n (RY.p (.bool true) (by simp[execOp,go_sem,RY.E hd 1 36,RY.E hd 2 37,kr]))
      |4,rfl=>
       exact RY.n (RY.p (.bool true) (by simp[execOp,go_sem,RY.E hd 3 38]))
      |5,rfl=>
       exact RY.on hd 4 39 (RY.p (.func (.func 100) #[.agg #[.slice va l.length vc]] #[]) (by simp[execOp,go_sem,RY.K hk 2 (.func (.func 100) #[.agg #[.slice va l.length vc]] #[])]))
      |6,rfl=>
       exact RY.on hd 4 39 (RY.p (.slice (some ⟨p,o,none⟩) n c) (by simp[execOp,go_sem,RY.K hk 0 (.slice (some ⟨p,o,none⟩) n c)]))
      |7,rfl=>
       exact RY.on hd 4 39 (RY.p (.int .i64 (b:Int)) (by simp[execOp,go_sem,RY.K hk 9 (.int .i64 (b:Int))]))
      |8,rfl=>
       exact RY.on hd 4 39 (RY.p (.pointer (some ⟨p,o+b*2,none⟩)) (by simp[execOp,go_sem,RY.E hd 6 41,RY.E hd 7 42,aU,kr]))
      |9,rfl=>
       have gd:=hd 4 _ 39 rfl rfl ⟨⟨4,.guard⟩,by simp,rfl,rfl⟩;have v43:a.eval (.tmp 43)=.pointer (some ⟨p,o+b*2,none⟩):=hd 8 _ 43 rfl rfl ⟨⟨8,.data⟩,by simp,rfl,rfl⟩;exact No ⟨(RY.bg rfl rfl rfl gd).trans rfl,No ⟨_,X,ak 41 _ rfl p (o+b*2) v43 [.string x.key,.slice ax x.ws.length cx] _ (aj cU.out de.out hX) Tryz.underlying41 rfl (by kernel_rfl),zR,rfl⟩⟩
      |10,rfl=>
       have gd:=hd 4 _ 39 rfl rfl ⟨⟨4,.guard⟩,by simp,rfl,rfl⟩;have v4:a.eval (.tmp 4)=.pointer (some ⟨b0,0,none⟩):=(hk 4 (by kernel_rfl)).trans rfl;exact No ⟨(RY.bg rfl rfl rfl gd).trans rfl,No ⟨_,X,ak 41 _ rfl b0 0 v4 [.string t.key,.slice at_ t.ws.length ct] _ zb0.at_ Tryz.underlying41 rfl (by kernel_rfl),zR,rfl⟩⟩
      |11,rfl=>
       have e40:=RY.E hd 5 40;have e44:=RY.E hd 9 44;have e45:=RY.E hd 10 45;refine RY.on hd 4 39 (.inr ⟨100,#[.agg #[.slice va l.length vc],.agg #[.string x.key,.slice ax x.ws.length cx],.agg #[.string t.key,.slice at_ t.ws.length ct]],by simp[go_sem,e40,e44,e45],(HX.out X hX).mono ?_⟩);rintro e W' ⟨rfl,hb⟩;exact⟨_,rfl,hb,rfl⟩
      |12,rfl=>
       exact RY.on hd 4 39 (RY.p (.bool true) (by simp[execOp,go_sem,RY.E hd 11 46,hz]))
      |13,rfl=>
       exact RY.n (RY.p (.bool true) (by simp[execOp,go_sem,RY.E hd 4 39,RY.E hd 12 47]))
      |14,rfl=>
       exact RY.n (RY.p (.int .i64 (b:Int)) (by simp[execOp,go_sem,RY.E hd 0 35]))
      |15,rfl=>
       exact RY.n (RY.p (.bool true) (by simp[execOp,go_sem,RY.E hd 13 48]))
      |n+16,ho=>simp at ho
     intro X vs hX bn;have q6:vs 6=_:=bn 14 _ 6 rfl rfl;have q7:vs 7=_:=bn 15 _ 7 rfl rfl;simp only[RY.aC,Act.put,so,As,An];rw[q6,q7];generalize vs 35=nP,vs 36=mU,vs 37=nS,vs 38=mT,vs 39=nW,vs 40=s40,vs 41=s41,vs 42=s42,vs 43=s43,vs 44=s44,vs 45=s45,vs 46=s46,vs 47=s47,vs 48=s48;clear bn q6 q7;go_wp2;go_ret2;refine⟨Pl.ot nV.out.symm,ae oX.out hX⟩
    ·have nV:Hid (R=false):=by show R=_;rw[zd.out,decide_eq_false hz]
     refine RY.aM wr zR (Nn p o c b n l va vc x t ax at_ cx ct r) (C7 _ _ _ _ _ _ _ _ _ _ _ _ _ _ _) (by kernel_rfl) (by kernel_rfl) (by kernel_rfl) (by kernel_rfl) ?_ ?_
     ·intro ii o' ho a X hX hk hd;have zb0:=HK.out.later hX;have zb0l:=zb0.lt;match ii,ho with
      |0,rfl|1,rfl=>
       exact RY.n (RY.p (.int .i64 (b:Int)) (by simp[execOp,go_sem,RY.K hk 9 (.int .i64 (b:Int))]))
      |2,rfl=>
       exact RY.n (RY.p (.int .i64 (n:Int)) (by simp[execOp,go_sem,RY.K hk 8 (.int .i64 (n:Int))]))
      |3,rfl=>
       exact RY.n (RY.p (.bool true) (by simp[execOp,go_sem,RY.E hd 1 36,RY.E hd 2 37,kr]))
      |4,rfl=>
       exact RY.n (RY.p (.bool true) (by simp[execOp,go_sem,RY.E hd 3 38]))
      |5,rfl=>
       exact RY.on hd 4 39 (RY.p (.func (.func 100) #[.agg #[.slice va l.length vc]] #[]) (by simp[execOp,go_sem,RY.K hk 2 (.func (.func 100) #[.agg #[.slice va l.length vc]] #[])]))
      |6,rfl=>
       exact RY.on hd 4 39 (RY.p (.slice (some ⟨p,o,none⟩) n c) (by simp[execOp,go_sem,RY.K hk 0 (.slice (some ⟨p,o,none⟩) n c)]))
      |7,rfl=>
       exact RY.on hd 4 39 (RY.p (.int .i64 (b:Int)) (by simp[execOp,go_sem,RY.K hk 9 (.int .i64 (b:Int))]))
      |8,rfl=>
       exact RY.on hd 4 39 (RY.p (.pointer (some ⟨p,o+b*2,none⟩)) (by simp[execOp,go_sem,RY.E hd 6 41,RY.E hd 7 42,aU,kr]))
      |9,rfl=>
       have gd:=hd 4 _ 39 rfl rfl ⟨⟨4,.guard⟩,by simp,rfl,rfl⟩;have v43:a.eval (.tmp 43)=.pointer (some ⟨p,o+b*2,none⟩):=hd 8 _ 43 rfl rfl ⟨⟨8,.data⟩,by simp,rfl,rfl⟩;exact No ⟨(RY.bg rfl rfl rfl gd).trans rfl,No ⟨_,X,ak 41 _ rfl p (o+b*2) v43 [.string x.key,.slice ax x.ws.length cx] _ (aj cU.out de.out hX) Tryz.underlying41 rfl (by kernel_rfl),zR,rfl⟩⟩
      |10,rfl=>
       have gd:=hd 4 _ 39 rfl rfl ⟨⟨4,.guard⟩,by simp,rfl,rfl⟩;have v4:a.eval (.tmp 4)=.pointer (some ⟨b0,0,none⟩):=(hk 4 (by kernel_rfl)).trans rfl;exact No ⟨(RY.bg rfl rfl rfl gd).trans rfl,No ⟨_,X,ak 41 _ rfl b0 0 v4 [.string t.key,.slice at_ t.ws.length ct] _ zb0.at_ Tryz.underlying41 rfl (by kernel_rfl),zR,rfl⟩⟩
      |11,rfl=>
       have e40:=RY.E hd 5 40;have e44:=RY.E hd 9 44;have e45:=RY.E hd 10 45;refine RY.on hd 4 39 (.inr ⟨100,#[.agg #[.slice va l.length vc],.agg #[.string x.key,.slice ax x.ws.length cx],.agg #[.string t.key,.slice at_ t.ws.length ct]],by simp[go_sem,e40,e44,e45],(HX.out X hX).mono ?_⟩);rintro e W' ⟨rfl,hb⟩;exact⟨_,rfl,hb,rfl⟩
      |12,rfl=>
       exact RY.on hd 4 39 (RY.p (.bool false) (by simp[execOp,go_sem,RY.E hd 11 46,hz]))
      |13,rfl=>
       exact RY.n (RY.p (.bool false) (by simp[execOp,go_sem,RY.E hd 4 39,RY.E hd 12 47]))
      |14,rfl=>
       exact RY.n (RY.p (.int .i64 (b:Int)) (by simp[execOp,go_sem,RY.E hd 0 35]))
      |15,rfl=>
       exact RY.n (RY.p (.bool false) (by simp[execOp,go_sem,RY.E hd 13 48]))
      |n+16,ho=>simp at ho
     intro X vs hX bn;have q6:vs 6=_:=bn 14 _ 6 rfl rfl;have q7:vs 7=_:=bn 15 _ 7 rfl rfl;simp only[RY.aC,Act.put,so,As,An];rw[q6,q7];generalize vs 35=nP,vs 36=mU,vs 37=nS,vs 38=mT,vs 39=nW,vs 40=s40,vs 41=s41,vs 42=s42,vs 43=s43,vs 44=s44,vs 45=s45,vs 46=s46,vs 47=s47,vs 48=s48;clear bn q6 q7;go_wp2;go_ret2;refine⟨Pl.ot nV.out.symm,ae oX.out hX⟩
   ·have kr:¬ ((b:Int)<(n:Int)):=by omega
    have nV:Hid (R=false):=by show R=_;rw[HR.out];simp[eH]
    go_upto_region 8 with fail
    refine RY.aM wr zR (N5 b n) (C5 _ _) (by kernel_rfl) (by kernel_rfl) (by kernel_rfl) (by kernel_rfl) ?_ ?_
    ·intro ii o' ho a X hX hk hd;have zb0:=HK.out.later hX;have zb0l:=zb0.lt;match ii,ho with
     |0,rfl|1,rfl=>
      exact RY.n (RY.p (.int .i64 (b:Int)) (by simp[execOp,go_sem,RY.K hk 9 (.int .i64 (b:Int))]))
     |2,rfl=>
      exact RY.n (RY.p (.int .i64 (n:Int)) (by simp[execOp,go_sem,RY.K hk 8 (.int .i64 (n:Int))]))
     |3,rfl=>
      exact RY.n (RY.p (.bool false) (by simp[execOp,go_sem,RY.E hd 1 36,RY.E hd 2 37,kr]))
     |4,rfl=>
      exact RY.n (RY.p (.bool false) (by simp[execOp,go_sem,RY.E hd 3 38]))
     |5,rfl|6,rfl|7,rfl|8,rfl|9,rfl|10,rfl|11,rfl|12,rfl=>
      exact RY.off hd 4 39
     |13,rfl=>
      exact RY.n (RY.p (.bool false) (by simp[execOp,go_sem,RY.E hd 4 39,RY.E hd 12 47]))
     |14,rfl=>
      exact RY.n (RY.p (.int .i64 (b:Int)) (by simp[execOp,go_sem,RY.E hd 0 35]))
     |15,rfl=>
      exact RY.n (RY.p (.bool false) (by simp[execOp,go_sem,RY.E hd 13 48]))
     |n+16,ho=>simp at ho
    intro X vs hX bn;have q6:vs 6=_:=bn 14 _ 6 rfl rfl;have q7:vs 7=_:=bn 15 _ 7 rfl rfl;simp only[RY.aC,Act.put,so,As,An];rw[q6,q7];generalize vs 35=nP,vs 36=mU,vs 37=nS,vs 38=mT,vs 39=nW,vs 40=s40,vs 41=s41,vs 42=s42,vs 43=s43,vs 44=s44,vs 45=s45,vs 46=s46,vs 47=s47,vs 48=s48;clear bn q6 q7;go_wp2;go_ret2;refine⟨Pl.ot nV.out.symm,ae oX.out hX⟩
end Go.Proofs.YtgiglpnaekbegaaGreatDoor
namespace Go.Proofs.YtgiglpnaekbegaaGreatDoor.Pl
def sp (c:UInt8):Bool:=decide (c.toNat=32)
def kF (l:List UInt8):List UInt8:=match l.dropWhile sp with
 |[]=> []
 |c::r=>if c.toNat=35 then [] else c::r
theorem BY:∀ (l:List UInt8) (c:UInt8) (r:List UInt8),l.dropWhile sp=c::r→c.toNat≠32
 |[],c,r,h=>by cases h
 |a::l,c,r,h=>by
  rw[List.dropWhile_cons]at h;split at h
  ·exact BY l c r h
  ·rename_i hn
   injection h with h1 _
   subst h1;simpa [sp]using hn
theorem rJ {l:List UInt8} {c:UInt8} {r:List UInt8} (h:kF l=c::r):c.toNat≠32∧c.toNat≠35:=by
 unfold kF at h;split at h
 ·cases h
 ·rename_i c' r' h'
  split at h
  ·cases h
  ·rename_i hn
   injection h with h1 h2
   subst h1;exact⟨BY l _ _ h',hn⟩
theorem E2:∀ (l:List UInt8) (m:Nat),bo (l.dropWhile sp) m=bo l m
 |[],_=>rfl
 |a::l,m=>by
  rw[List.dropWhile_cons];split
  ·rename_i h
   rw[E2 l m,bo,if_pos (by simpa [sp]using h)]
  ·rfl
theorem x7 (l:List UInt8) (m:Nat):bo (kF l) m=bo l m:=by
 rw[← E2 l m];unfold kF;split
 ·rename_i h;rw[h]
 ·rename_i c r h
  rw[h];split
  ·rename_i h35
   rw[bo,bo,if_neg (by omega),if_pos h35]
  ·rfl
def er (c:UInt8) (l:List UInt8):UInt8×Nat:=
 if gl c then (c,1)
 else if c.toNat=92∧2≤l.length∧0≤cm (l.getD 0 0)∧0≤cm (l.getD 1 0) then (UInt8.ofNat (16*cm (l.getD 0 0)+cm (l.getD 1 0)).toNat,3)
 else (0,0)
theorem Fa (c:UInt8) (l:List UInt8) (h:c.toNat≠34):dz (c::l)=if (er c l).2=0 then none else (dz ((c::l).drop (er c l).2)).map fun p=>((er c l).1::p.1,p.2+(er c l).2):=by
 rw[dz,if_neg h];by_cases hs:gl c=true
 ·have Q9:32≤c.toNat∧c.toNat≤126∧c.toNat≠92:=by
   simp only[gl,Xj,decide_eq_true_eq,bne_iff_ne]at hs;exact⟨hs.1.1.1,hs.1.1.2,hs.2⟩
  have e:er c l=(c,1):=by unfold er;rw[if_pos hs]
  rw[e,if_neg Q9.2.2,if_pos ⟨Q9.1,Q9.2.1⟩];simp
 ·by_cases h92:c.toNat=92
  ·rw[if_pos h92];by_cases hx:2≤l.length∧0≤cm (l.getD 0 0)∧0≤cm (l.getD 1 0)
   ·have e:er c l=(UInt8.ofNat (16*cm (l.getD 0 0)+cm (l.getD 1 0)).toNat,3):=by unfold er;rw[if_neg hs,if_pos ⟨h92,hx⟩]
    rw[e,if_pos hx];simp
   ·have e:er c l=(0,0):=by unfold er;rw[if_neg hs,if_neg (fun e=>hx e.2)]
    rw[e,if_neg hx];simp
  ·have Q9:¬ (32≤c.toNat∧c.toNat≤126):=by
    simp only[gl,Xj,decide_eq_true_eq,bne_iff_ne]at hs;intro e;exact hs ⟨⟨⟨e.1,e.2⟩,h⟩,h92⟩
   have e:er c l=(0,0):=by unfold er;rw[if_neg hs,if_neg (fun e=>h92 e.1)]
   rw[e,if_neg h92,if_neg Q9];simp
theorem C6 (c:UInt8):Lib.indexByte [48,49,50,51,52,53,54,55,56,57,97,98,99,100,101,102] c=cm c:=by
 have key:∀ n:Fin 256,Lib.indexByte [48,49,50,51,52,53,54,55,56,57,97,98,99,100,101,102] (UInt8.ofNat n.1)=cm (UInt8.ofNat n.1):=by decide+kernel
 have:=key ⟨c.toNat,yB c⟩;simpa using this
theorem QS {a:ByteArray} {l:List UInt8} (h:a.data.toList=l):a=⟨l.toArray⟩:=by rw[← h,back]
theorem Ge {a:ByteArray} {c:UInt8} {r:List UInt8} (h:a.data.toList=c::r):1≤a.size:=by rw[← aD,h];simp
theorem QQ {a:ByteArray} {c:UInt8} {r:List UInt8} (h:a.data.toList=c::r) (h0:0<a.size):a[0]=c:=by
 have:a.data.toList.headD 0=a[0]:=p7 a h0;rw[← this,h];rfl
end Go.Proofs.YtgiglpnaekbegaaGreatDoor.Pl
namespace Go.Proofs.YtgiglpnaekbegaaGreatDoor
set_option maxRecDepth 8000
set_option maxHeartbeats 40000000
open Go.RowKit Go.Deep
theorem Dn (s:ByteArray) (w:World):
  Calls Tryz.prog 169 #[.string s,.int .u8 32] w fun e w'=>∃ x:ByteArray,e=.returned (.string x)∧x.data.toList=s.data.toList.dropWhile Pl.sp∧x.size≤s.size∧w=w':=by
 go_enter Tryz.func169,Tryz.ntmps169
 go_wp2;go_loop [0] (fun v=>∃ x:ByteArray,v=.string x∧x.size≤s.size∧Hid (x.data.toList.dropWhile Pl.sp=s.data.toList.dropWhile Pl.sp)) (fun v=>match v with|.string x=>x.size|_=>0)
 case atStart=>exact⟨s,rfl,zE,rfl⟩
 case round=>
  obtain⟨x,rfl,hx,HI⟩:=hrel;by_cases h1:1≤x.size
  ·have d0:decide ((0:Int)<(x.size:Int))=true:=by simp;omega
   have lY:=Pl.dB x 0 (by omega);rw[Ya]at lY;by_cases h32:x[0].toNat=32
   ·have d1:((x[0].toNat:Int)==32)=true:=by simp;omega
    have HN:Hid ((x.extract 1 x.size).data.toList.dropWhile Pl.sp=s.data.toList.dropWhile Pl.sp):=by
     show _=_;rw[← HI.out,Pl.j5,lY,List.dropWhile_cons,if_pos (by simpa [Pl.sp]using h32)];rfl
    clear lY h32;go_wp2;go_round
    case rel=>exact⟨_,rfl,by simp[ByteArray.size_extract];omega,HN⟩
    case measure=>simp[ByteArray.size_extract];omega
   ·have d1:((x[0].toNat:Int)==32)=false:=by simp;omega
    have HN:Hid (x.data.toList=s.data.toList.dropWhile Pl.sp):=by
     show _=_;rw[← HI.out,lY,List.dropWhile_cons,if_neg (by simpa [Pl.sp]using h32)]
    clear lY h32;go_wp2;go_ret;exact⟨x,rfl,HN.out,hx,rfl⟩
  ·have d0:decide ((0:Int)<(x.size:Int))=false:=by rw[decide_eq_false_iff_not];omega
   have HN:Hid (x.data.toList=s.data.toList.dropWhile Pl.sp):=by
    show _=_;have e:x.data.toList=[]:=Xs (by rw[Pl.aD];omega);rw[← HI.out,e];rfl
   go_wp2;go_ret;exact⟨x,rfl,HN.out,hx,rfl⟩
theorem Dl (s:ByteArray) (w:World):
  Calls Tryz.prog 157 #[.string s,.string {data:=#[32]}] w fun e w'=>∃ x:ByteArray,e=.returned (.string x)∧x.data.toList=s.data.toList.dropWhile Pl.sp∧x.size≤s.size∧w=w':=by
 by_cases h1:1≤s.size
 ·have h0:=Pl.gK s h1;have HC:=uh (Dn s w);go_enter Tryz.func157,Tryz.ntmps157
  go_wp2_with (go_at_call 169;refine HC.out.mono ?_;rintro e w' ⟨x,rfl,hx,hz,rfl⟩)
  go_ret;exact⟨x,rfl,hx,hz,rfl⟩
 ·have h0:=Pl.gz s h1;go_enter Tryz.func157,Tryz.ntmps157
  go_wp2;go_ret;refine⟨s,rfl, ?_,zE,rfl⟩;have e:s.data.toList=[]:=Xs (by rw[Pl.aD];omega);rw[e];rfl
theorem DB (s:ByteArray) (w:World):
  Calls Tryz.prog 135 #[.string s] w fun e w'=>∃ x:ByteArray,e=.returned (.string x)∧x.data.toList=Pl.kF s.data.toList∧x.size≤s.size∧w=w':=by
 have HC:=uh (Dl s w);go_enter Tryz.func135,Tryz.ntmps135
 go_wp2_with fail
 refine HC.out.mono ?_;rintro e w' ⟨x,rfl,hx,hz,rfl⟩;have HX:=uh hx;clear hx HC;by_cases h1:1≤x.size
 ·have h0:=Pl.gK x h1;have lY:=Pl.dB x 0 (by omega);rw[Ya]at lY;by_cases h35:x[0].toNat=35
  ·have d1:((x[0].toNat:Int)==35)=true:=by simp;omega
   have HN:Hid (([]:List UInt8)=Pl.kF s.data.toList):=by
    show _=_;unfold Pl.kF;rw[← HX.out,lY];simp[h35]
   clear lY h35;go_wp2;go_ret;exact⟨_,rfl,HN.out,by show 0≤_;omega,rfl⟩
  ·have d1:((x[0].toNat:Int)==35)=false:=by simp;omega
   have HN:Hid (x.data.toList=Pl.kF s.data.toList):=by
    show _=_;unfold Pl.kF;rw[← HX.out,lY];simp[h35]
   clear lY h35;go_wp2;go_ret;exact⟨_,rfl,HN.out,hz,rfl⟩
 ·have h0:=Pl.gz x h1;have HN:Hid (x.data.toList=Pl.kF s.data.toList):=by
   show _=_;have e:x.data.toList=[]:=Xs (by rw[Pl.aD];omega);unfold Pl.kF;rw[← HX.out,e]
  go_wp2;go_ret;exact⟨_,rfl,HN.out,hz,rfl⟩
theorem KD (s:ByteArray) (w:World):
  Calls Tryz.prog 137 #[.string s] w fun e w'=>e=.returned (.bool (Pl.behind s.data.toList))∧w=w':=by
 by_cases h1:1≤s.size
 ·have h0:=Pl.gK s h1;have lY:=Pl.dB s 0 (by omega);rw[Ya]at lY;have HB:Hid (Pl.behind s.data.toList=(((s[0].toNat:Int)==32)||((s[0].toNat:Int)==35))):=by
   show _=_;rw[lY];show (decide (s[0].toNat=32)||decide (s[0].toNat=35))=_;rw[XB];simp;omega
  clear lY;cases h32:((s[0].toNat:Int)==32)
  all_goals
   rw[h32]at HB;go_enter Tryz.func137,Tryz.ntmps137
   go_wp2;go_ret;exact⟨Pl.ar (by rw[HB.out];simp),rfl⟩
 ·have h0:=Pl.gz s h1;have e:s.data.toList=[]:=Xs (by rw[Pl.aD];omega);go_enter Tryz.func137,Tryz.ntmps137
  go_wp2;go_ret;exact⟨Pl.ar (by rw[e];rfl),rfl⟩
theorem Al (s:ByteArray) (w:World) (h1:1≤s.size):
  Calls Tryz.prog 136 #[.string s] w fun e w'=>e=.returned (if s[0].toNat=34 then .iface 238 (.agg #[]) else .iface 216 (.agg #[]))∧w=w':=by
 by_cases h34:s[0].toNat=34
 ·have d1:((s[0].toNat:Int)==34)=true:=by simp;omega
  rw[if_pos h34];clear h34;go_enter Tryz.func136,Tryz.ntmps136
  go_wp2;go_ret;exact⟨rfl,rfl⟩
 ·have d1:((s[0].toNat:Int)==34)=false:=by simp;omega
  rw[if_neg h34];clear h34;go_enter Tryz.func136,Tryz.ntmps136
  go_wp2;go_ret;exact⟨rfl,rfl⟩
theorem z7 (s:ByteArray) (c:UInt8) (w:World):
  Calls Tryz.prog 165 #[.string s,.int .u8 c.toNat] w fun e w'=>e=.returned (.int .i64 (Lib.indexByte s.data.toList c))∧w=w':=by
 have hc:((c.toNat:Int)).toNat.toUInt8=c:=by simp
 have HE:=uh hc;clear hc;go_enter Tryz.func165,Tryz.ntmps165
 go_wp2;rw[run_callFunc_extern Tryz.func176 (by kernel_rfl) (by kernel_rfl) (by kernel_rfl) (e:=Extern.BytealgIndexByte.indexByte) (by kernel_rfl),Lib.run_indexByteString];simp only[Result.andThen];rw[YU];rw[HE.out];go_wp2;go_ret;exact⟨rfl,rfl⟩
theorem Hq (c:UInt8) (w:World):
  Calls Tryz.prog 182 #[.string {data:=#[48,49,50,51,52,53,54,55,56,57,97,98,99,100,101,102]},.int .u8 c.toNat] w fun e w'=>e=.returned (.int .i64 (Pl.cm c))∧w=w':=by
 have HC:=uh (z7 {data:=#[48,49,50,51,52,53,54,55,56,57,97,98,99,100,101,102]} c w);have HE:Hid (Lib.indexByte ({data:=#[48,49,50,51,52,53,54,55,56,57,97,98,99,100,101,102]}:ByteArray).data.toList c=Pl.cm c):=Pl.C6 c;rw[HE.out]at HC;go_enter Tryz.func182,Tryz.ntmps182
 go_wp2_with (go_at_call 165;refine HC.out.mono ?_;rintro e w' ⟨rfl,rfl⟩)
 go_ret;exact⟨rfl,rfl⟩
theorem TY:∀ a b:Fin 16,bits BinOp.or IntKind.i64 ((a.1:Int)*16) (b.1:Int) % 256=16*(a.1:Int)+(b.1:Int):=by decide+kernel
def VIq (s:ByteArray) (b1 b2:UInt8) (x1 x2:Int) (jj:Nat) (u:Value) (_:World):Prop:=match jj with
 |0|3=>u=.string s
 |1=>u=.int .u8 (b1.toNat:Int)
 |2|6=>u=.int .i64 x1
 |4=>u=.int .u8 (b2.toNat:Int)
 |5|7=>u=.int .i64 x2
 |_=>True
theorem GG (s:ByteArray) (b1 b2:UInt8) (x1 x2:Int):∀ j u W W',Bel W W'→VIq s b1 b2 x1 x2 j u W→VIq s b1 b2 x1 x2 j u W':=by
 intro j u W W' hb h;match j with
 |0|1|2|3|4|5|6|7=>exact h
 |n+8=>exact trivial
theorem Ct (s:ByteArray) (c:UInt8) (l:List UInt8) (w:World) (hc:s.data.toList=c::l) (hs:s.size≤1048576):
  Calls Tryz.prog 222 #[.string s] w fun e w'=>e=.returned (.tuple #[.int .u8 (Pl.er c l).1.toNat,.int .i64 ((Pl.er c l).2:Int)])∧Bel w w':=by
 have h1:=Pl.Ge hc;have hat:=Pl.QQ hc (by omega);have hlen:l.length+1=s.size:=by rw[← Pl.aD,hc,Xm]
 have HP:=uh (fun w=>jd c w);have HC:=uh hc;clear hc;cases hsf:Pl.gl c
 rotate_left
 ·have HR:Hid (Pl.er c l=(c,1)):=by show _=_;unfold Pl.er;rw[if_pos hsf]
  rw[hsf]at HP;clear hsf;go_enter Tryz.func222,Tryz.ntmps222
  go_wp2_with (go_at_call 131;refine(HP.out _).mono ?_;rintro e w' ⟨rfl,rfl⟩)
  go_ret2;rw[HR.out];exact⟨rfl,zR⟩
 have Th:=uh hsf;rw[hsf]at HP;clear hsf;by_cases h92:c.toNat=92
 rotate_left
 ·have HR:Hid (Pl.er c l=(0,0)):=by show _=_;unfold Pl.er;rw[if_neg (by rw[Th.out];decide),if_neg (fun e=>h92 e.1)]
  have d1:((c.toNat:Int) !=92)=true:=by simp;omega
  clear h92;go_enter Tryz.func222,Tryz.ntmps222
  go_wp2_with (go_at_call 131;refine(HP.out _).mono ?_;rintro e w' ⟨rfl,rfl⟩)
  go_ret2;rw[HR.out];exact⟨rfl,zR⟩
 have d1:((c.toNat:Int) !=92)=false:=by simp;omega
 by_cases h3:3≤s.size
 rotate_left
 ·have HR:Hid (Pl.er c l=(0,0)):=by show _=_;unfold Pl.er;rw[if_neg (by rw[Th.out];decide),if_neg (fun e=>by have:=e.2.1;omega)]
  have d3:decide ((s.size:Int)<3)=true:=by simp;omega
  clear h92;go_enter Tryz.func222,Tryz.ntmps222
  go_wp2_with (go_at_call 131;refine(HP.out _).mono ?_;rintro e w' ⟨rfl,rfl⟩)
  go_ret2;rw[HR.out];exact⟨rfl,zR⟩
 have d3:decide ((s.size:Int)<3)=false:=by simp;omega
 have e1:s[1]=l.getD 0 0:=by
  have:=Pl.uD s 0 1 (by omega);rw[Ya,HC.out]at this;simpa using this.symm
 have e2:s[2]=l.getD 1 0:=by
  have:=Pl.uD s 0 2 (by omega);rw[Ya,HC.out]at this;simpa using this.symm
 have HR:Hid (Pl.er c l=if 0≤Pl.cm (l.getD 0 0)∧0≤Pl.cm (l.getD 1 0) then (UInt8.ofNat (16*Pl.cm (l.getD 0 0)+Pl.cm (l.getD 1 0)).toNat,3) else (0,0)):=by
  show _=_;unfold Pl.er;rw[if_neg (by rw[Th.out];decide)];by_cases hx:0≤Pl.cm (l.getD 0 0)∧0≤Pl.cm (l.getD 1 0)
  ·rw[if_pos hx,if_pos ⟨h92,by omega,hx⟩]
  ·rw[if_neg hx,if_neg (fun e=>hx e.2.2)]
 obtain⟨b1,cr⟩:∃ b,b=l.getD 0 0:=⟨_,rfl⟩
 obtain⟨b2,dD⟩:∃ b,b=l.getD 1 0:=⟨_,rfl⟩
 rw[← cr]at e1 HR;rw[← dD]at e2 HR;have ld:=uh (fun w=>Hq b1 w);have kY:=uh (fun w=>Hq b2 w);have g1:=Pl.qh b1;have g2:=Pl.qh b2;obtain⟨x1,fc⟩:∃ x,x=Pl.cm b1:=⟨_,rfl⟩
 obtain⟨x2,iR⟩:∃ x,x=Pl.cm b2:=⟨_,rfl⟩
 rw[← fc]at ld HR g1;rw[← iR]at kY HR g2;clear cr dD fc iR h92 HC Th;have S1:Hid (∀ w,(Instr.index 9 (.string s) (.int .i64 1)).run Tryz.prog w=.ok (.int .u8 b1.toNat) w):=fun w=>by
  rw[run_index_string w 9 _ .i64 1 (by kernel_rfl),dif_pos ⟨by omega,by omega⟩,← e1];rfl
 have Ro:Hid (∀ w,(Instr.index 9 (.string s) (.int .i64 2)).run Tryz.prog w=.ok (.int .u8 b2.toNat) w):=fun w=>by
  rw[run_index_string w 9 _ .i64 2 (by kernel_rfl),dif_pos ⟨by omega,by omega⟩,← e2];rfl
 clear e1 e2;go_enter Tryz.func222,Tryz.ntmps222
 go_upto_region 5 with(go_at_call 131;refine(HP.out _).mono ?_;rintro e w' ⟨rfl,rfl⟩)
 refine RY.bs w zR (VIq s b1 b2 x1 x2) (GG _ _ _ _ _) (by kernel_rfl) (by kernel_rfl) (by kernel_rfl) (by kernel_rfl) ?_ ?_
 ·intro i o' ho a X hX hk hd;match i,ho with
  |0,rfl|3,rfl=>
   exact RY.p (.string s) (by simp[execOp,go_sem,RY.K hk 0 (.string s)])
  |1,rfl=>
   exact RY.p (.int .u8 (b1.toNat:Int)) (by simp[execOp,go_sem,RY.E hd 0 19,S1.out X])
  |2,rfl=>
   have e20:=RY.E hd 1 20;refine Xk ⟨182,#[.string {data:=#[48,49,50,51,52,53,54,55,56,57,97,98,99,100,101,102]},.int .u8 b1.toNat],by simp[go_sem,e20],(ld.out X).mono ?_⟩;rintro e W' ⟨rfl,rfl⟩;exact⟨_,rfl,zR,rfl⟩
  |4,rfl=>
   exact RY.p (.int .u8 (b2.toNat:Int)) (by simp[execOp,go_sem,RY.E hd 3 22,Ro.out X])
  |5,rfl=>
   have e23:=RY.E hd 4 23;refine Xk ⟨182,#[.string {data:=#[48,49,50,51,52,53,54,55,56,57,97,98,99,100,101,102]},.int .u8 b2.toNat],by simp[go_sem,e23],(kY.out X).mono ?_⟩;rintro e W' ⟨rfl,rfl⟩;exact⟨_,rfl,zR,rfl⟩
  |6,rfl=>
   exact RY.p (.int .i64 x1) (by simp[execOp,go_sem,RY.E hd 2 21])
  |7,rfl=>
   exact RY.p (.int .i64 x2) (by simp[execOp,go_sem,RY.E hd 5 24])
  |n+8,ho=>simp at ho
 intro X vs hX bn;have q4:vs 4=_:=bn 6 _ 4 rfl rfl;have q5:vs 5=_:=bn 7 _ 5 rfl rfl;simp only[RY.aC,Act.put,so,As,An];rw[q4,q5];generalize vs 19=s19,vs 20=s20,vs 21=s21,vs 22=s22,vs 23=s23,vs 24=s24;clear bn q4 q5;replace hX:=uh hX
 have wG:=hX;clear hX;by_cases p1:x1<0
 ·have HF:Hid (Pl.er c l=(0,0)):=by show _=_;rw[HR.out,if_neg (by omega)]
  go_wp2;go_ret2;rw[HF.out];exact⟨rfl,wG.out⟩
 by_cases p2:x2<0
 ·have HF:Hid (Pl.er c l=(0,0)):=by show _=_;rw[HR.out,if_neg (by omega)]
  go_wp2;go_ret2;rw[HF.out];exact⟨rfl,wG.out⟩
 have HF:Hid (Pl.er c l=(UInt8.ofNat (16*x1+x2).toNat,3)):=by show _=_;rw[HR.out,if_pos (by omega)]
 go_wp2;go_ret2;rw[HF.out];refine⟨?_,wG.out⟩;have e:=TY ⟨x1.toNat,by omega⟩ ⟨x2.toNat,by omega⟩;have a1:((x1.toNat:Nat):Int)=x1:=by omega
 have a2:((x2.toNat:Nat):Int)=x2:=by omega
 simp only[a1,a2]at e;have e':((UInt8.ofNat (16*x1+x2).toNat).toNat:Int)=16*x1+x2:=by rw[UInt8.toNat_ofNat'];omega
 show Ending.returned (.tuple #[.int .u8 (bits BinOp.or IntKind.i64 (x1*16) x2 % 256),.int .i64 3])=.returned (.tuple #[.int .u8 ((UInt8.ofNat (16*x1+x2).toNat).toNat:Int),.int .i64 3]);rw[e,e']
def vH (v:Value):Nat:=match v with
 |.string x=>x.size
 |_=>0
def TZ (s:ByteArray) (r:List UInt8) (w:World) (e:Ending) (w':World):Prop:=
 Bel w w'∧((Pl.dz r=none∧∃ a b,e=.returned (.tuple #[.string a,.string b,.bool false]))∨∃ x n b,Pl.dz r=some (x,n)∧ByteArray.toList b=r.drop n∧b.size≤s.size∧e=.returned (.tuple #[.string ⟨x.toArray⟩,.string b,.bool true]))
theorem xe (s:ByteArray) (c0:UInt8) (r:List UInt8) (w:World) (hc:s.data.toList=c0::r) (hs:s.size≤1048576):
  Calls Tryz.prog 221 #[.agg #[],.string s] w (TZ s r w):=by
 have h1:=Pl.Ge hc;have hlen:r.length+1=s.size:=by rw[← Pl.aD,hc,Xm]
 have HT:Hid ((s.extract 1 s.size).data.toList=r):=by show _=_;rw[Pl.j5,hc];rfl
 clear hc;go_enter Tryz.func221,Tryz.ntmps221
 go_wp2;go_loopw [7,8] (fun v u wr=>∃ (O:List UInt8) (x:ByteArray) (k:Nat),u=.string x∧By wr w.heap.size v O∧O.length≤k∧k+x.size=r.length∧x.data.toList=r.drop k∧Bel w wr∧Pl.dz r=(Pl.dz (r.drop k)).map fun p=>(O++p.1,k+p.2)) (fun _ u _=>vH u)
 case atStart=>exact⟨[],s.extract 1 s.size,0,rfl,By.nil _ _,zE,by rw[← Pl.aD,HT.out];omega,HT.out,af zR _,by simp⟩
 case round=>
  obtain⟨O,x,k,rfl,hO,sK,hkx,hx,hW,hX⟩:=hrel;have kB:=uh sK;have HO:=uh hO;have HW:=uh hW;have HX:=uh hX;have TF:=uh hx;obtain⟨sa,sc,hv⟩:=hO.shape;subst hv;clear hO hW sK hX hx HT;by_cases fc:1≤x.size
  rotate_left
  ·have h0:=Pl.gz x fc;have HR:Hid (Pl.dz r=none):=by
    show _=_;have e:r.drop k=[]:=by rw[← TF.out];exact Xs (by rw[Pl.aD];omega)
    rw[HX.out,e,Pl.dz];rfl
   go_wp2;go_ret3
   exact⟨HW.out,No ⟨HR.out,_,_,rfl⟩⟩
  have h0:=Pl.gK x fc;obtain⟨c,OS⟩:∃ c,c=x[0]:=⟨_,rfl⟩
  have lY:x.data.toList=c::x.data.toList.drop 1:=by
   have:=Pl.dB x 0 (by omega);rw[Ya]at this;rw[OS];exact this
  have hat:x[0]=c:=OS.symm;clear OS;obtain⟨l,hl⟩:∃ l,l=x.data.toList.drop 1:=⟨_,rfl⟩
  rw[← hl]at lY;have kX:Hid (r.drop k=c::l):=by show _=_;rw[← TF.out,lY]
  have Ce:=uh (fun W=>Ct x c l W lY (by omega));have IL:=uh (Pl.yB c);have HD:=uh lY;clear lY hl;by_cases c34:c.toNat=34
  ·have d1:((c.toNat:Int)==34)=true:=by simp;omega
   have HR:Hid (Pl.dz r=some (O,k+1)):=by
    show _=_;rw[HX.out,kX.out,Pl.dz,if_pos c34];simp
   have HE:Hid ((x.extract 1 x.size).toList=r.drop (k+1)):=by
    show _=_;rw[Pl.tl,Pl.j5,TF.out,YS]
   have Tl:=(HO.out.later (XF (Below.refl wr.heap.size wr))).Bt;clear c34 Ce;go_wp2;go_region
   all_goals go_wp2
   all_goals go_ret3
   all_goals refine⟨?_,Xk ⟨O,k+1,_,HR.out,HE.out,by simp[ByteArray.size_extract];omega,rfl⟩⟩
   all_goals repeat(first|exact HW.out|refine af ?_ _|refine XF ?_)
  have d1:((c.toNat:Int)==34)=false:=by simp;omega
  have HQ:=uh (Pl.Fa c l c34);obtain⟨b,n,kr⟩:∃ b n,Pl.er c l=(b,n):=⟨_,_,rfl⟩
  have hn:n=0∨n=1∨n=3∧2≤l.length:=by
   unfold Pl.er at kr;split at kr
   ·injection kr with _ h;omega
   ·split at kr
    ·rename_i hh;injection kr with _ h;have:=hh.2.1;omega
    ·injection kr with _ h;omega
  have hn':n≤x.size:=by
   have e:x.size=l.length+1:=by rw[← Pl.aD,HD.out,Xm]
   omega
  rw[kr]at HQ Ce;simp only at HQ Ce;clear c34 kr;by_cases MF:n=0
  ·subst MF;have HR:Hid (Pl.dz r=none):=by show _=_;rw[HX.out,kX.out,HQ.out];rfl
   go_wp2_with fail
   refine(Ce.out _).mono ?_;rintro e w1 ⟨rfl,cr⟩;go_wp2;go_ret3
   exact⟨ae HW.out cr,No ⟨HR.out,_,_,rfl⟩⟩
  have d2:((n:Int)==0)=false:=by simp;omega
  have HN:Hid (Pl.dz r=(Pl.dz (r.drop (k+n))).map fun p=>((O++[b])++p.1,(k+n)+p.2)):=by
   show _=_;rw[HX.out,kX.out,HQ.out,if_neg MF,← kX.out,YS,Option.map_map];congr 1;funext p
   simp only[Function.comp,Prod.mk.injEq];exact⟨by simp,by omega⟩
  have HE:Hid ((x.extract n x.size).data.toList=r.drop (k+n)):=by
   show _=_;rw[Pl.j5,TF.out,YS]
  have gF:(n:Int)≤(x.size:Int):=by omega
  have hn0':(0:Int)≤(n:Int):=by omega
  go_wp2_with fail
  refine(Ce.out _).mono ?_;rintro e w1 ⟨rfl,cr⟩;replace HO:=uh (HO.out.later cr)
  replace HW:=uh (ae HW.out cr)
  clear cr;go_wp2_with (refine lx rfl _ _ rfl w.heap.size (.slice sa O.length sc) O rfl (HO.out.later (af zR _)) w1.heap.size 1 1 [b] rfl rfl (World.news_of_block (cs:=#[.int .u8 (b.toNat:Int)]) (heap_alloc_new w1 _)) (by decide) (by have:=kB.out;omega) (by have:=HW.out.size;simp;omega) ?_;intro g1 c1 w2 q1 q2)
  go_roundw
  case rel=>exact⟨O++[b],_,k+n,rfl,by simpa using q1,by have:=kB.out;simp;omega,by simp[ByteArray.size_extract];omega,HE.out,(HO.out.later (af zR _)).below (af HW.out _) q2 zE,HN.out⟩
  case measure=>simp[vH,ByteArray.size_extract];omega
def ScA (c:UInt8) (r:List UInt8) (w:World) (e:Ending) (w':World):Prop:=
 Bel w w'∧((Pl.fW c r=none∧∃ a b,e=.returned (.tuple #[.string a,.string b,.bool false]))∨∃ y n b,Pl.fW c r=some (y,n)∧ByteArray.toList b=r.drop n∧e=.returned (.tuple #[.string ⟨y.toArray⟩,.string b,.bool true]))
theorem KE (s:ByteArray) (c:UInt8) (r:List UInt8) (w:World) (hc:s.data.toList=c::r) (hs:s.size≤1048576) (h34:c.toNat=34):
  Calls Tryz.prog 221 #[.agg #[],.string s] w (ScA c r w):=by
 refine(xe s c r w hc hs).mono ?_;have e0:Pl.fW c r=Pl.dz r:=by unfold Pl.fW;rw[if_pos h34]
 rintro e w' ⟨hb,⟨h1,h2⟩|⟨x,n,b,h1,h2,_,h3⟩⟩
 ·exact⟨hb,No ⟨by rw[e0,h1],h2⟩⟩
 ·exact⟨hb,Xk ⟨x,n,b,by rw[e0,h1],h2,h3⟩⟩
theorem QG (s:ByteArray) (c:UInt8) (r:List UInt8) (w:World) (hc:s.data.toList=c::r) (hs:s.size≤1048576) (h34:c.toNat≠34):
  Calls Tryz.prog 130 #[.agg #[],.string s] w (ScA c r w):=by
 refine(uq s w hs).mono ?_;rintro e w' ⟨p,hp,ht,he,hb⟩;rw[hc]at ht;have hlen:r.length+1=s.size:=by rw[← Pl.aD,hc,Xm]
 refine⟨hb, ?_⟩;cases p with
 |zero=>
  left;refine⟨?_,_,_,he⟩;have Uw:Pl.ck c=false:=by
   rw[Yy]at ht;cases hq:Pl.ck c
   ·rfl
   ·rw[hq]at ht;simp at ht
  unfold Pl.fW;rw[if_neg h34,Uw];rfl
 |succ p=>
  right;have Uw:Pl.ck c=true:=by
   rw[Yy]at ht;cases hq:Pl.ck c
   ·rw[hq]at ht;simp at ht
   ·rfl
  have hl:((c::r).takeWhile Pl.ck).length=p+1:=by rw[ht,Xo,Xm];omega
  have e1:s.extract 0 (p+1)=⟨((c::r).takeWhile Pl.ck).toArray⟩:=Pl.QS (by rw[Pl.eW,hc,ht];rfl);refine⟨(c::r).takeWhile Pl.ck,p,s.extract (p+1) s.size, ?_, ?_, ?_⟩
  ·unfold Pl.fW;rw[if_neg h34,Uw,hl];rfl
  ·rw[Pl.tl,Pl.j5,hc];rfl
  ·rw[he,e1];have:decide (0<p+1)=true:=by simp
   rw[this]
theorem KF (w:World) (l:List UInt8) (ws:List ByteArray) (v:Value) (h:Pl.bo l 0=some ws) (we:World) (hb:Bel w we) (hr:TxR we (w.heap.size+1) v ws):Ans fK (nv l) w (.returned (.agg [v,.bool false].toArray)) we:=by
 rw[nv,h];obtain⟨F,h1,h2,h3⟩:=hr.done;exact⟨[v,.bool false],F++[],rfl,h1.app (.b false .nil),by rw[Xl];exact h2,fun b gY=>by rw[Xl]at gY;have:=h3 b gY;omega,hb⟩
theorem QW (w:World):(method 392 238 (.agg #[]) "loop.example/wharfdesk/impl.scan").run Tryz.prog w=.ok (221,.agg #[]) w:=by kernel_rfl
theorem QY (w:World):(method 392 216 (.agg #[]) "loop.example/wharfdesk/impl.scan").run Tryz.prog w=.ok (130,.agg #[]) w:=by kernel_rfl
structure WI (w wr:World) (v:Value) (ws:List ByteArray):Prop where
 bel:Bel w wr
 res:aA wr w.heap.size 60 [.slice none 0 0,.bool false]
 row:TxR wr (w.heap.size+1) v ws
theorem WI.later {w wr wr':World} {v:Value} {ws:List ByteArray} (h:WI w wr v ws) (hb:Bel wr wr'):WI w wr' v ws:=⟨ae h.bel hb,h.res.later hb,h.row.later hb⟩
theorem xd (s:ByteArray) (w:World) (hs:s.size≤1048576):
  Calls Tryz.prog 112 #[.string s] w (Ans fK (nv s.data.toList) w):=by
 have nL:=uh (fun (x:ByteArray) W=>DB x W);go_enter Tryz.func112,Tryz.ntmps112
 go_wp2_with fail
 refine(nL.out _ _).mono ?_;rintro e w1 ⟨x0,rfl,DL,dp,gB⟩;subst gB;have H0:Hid (Pl.bo s.data.toList 0=(Pl.bo x0.data.toList 0).map ([]++·)∧∀ c r,x0.data.toList=c::r→c.toNat≠32∧c.toNat≠35):=by
  refine⟨?_,fun c r h=>Pl.rJ (l:=s.data.toList) (by rw[← DL,h])⟩;rw[DL,Pl.x7];simp
 clear DL;go_wp2;go_loopw [3,4] (fun v u wr=>∃ (ws:List ByteArray) (x:ByteArray),u=.string x∧x.size≤s.size∧ws.length≤8∧WI w wr v ws∧Pl.bo s.data.toList 0=(Pl.bo x.data.toList ws.length).map (ws++·)∧∀ c r,x.data.toList=c::r→c.toNat≠32∧c.toNat≠35) (fun _ u _=>vH u)
 case atStart=>exact⟨[],x0,rfl,dp,by simp,⟨af zR _,aA.new _ [.slice none 0 0,.bool false] _ _ rfl,TxR.nil _ _⟩,H0.out.1,H0.out.2⟩
 case round=>
  obtain⟨ws,x,rfl,LV,En,UJ,hcu,Em⟩:=hrel;have OV:=uh UJ;have uP:=uh hcu;obtain⟨va,vc,hv⟩:=UJ.row.shape;subst hv;clear UJ hcu H0;by_cases fc:1≤x.size
  rotate_left
  ·have h0:=Pl.gz x fc;have HR:Hid (Pl.bo s.data.toList 0=some ws):=by
    show _=_;have e:x.data.toList=[]:=Xs (by rw[Pl.aD];omega);rw[uP.out,e,Pl.bo];simp
   have bJ:wr.there w.heap.size 0 (#[.slice va ws.length vc,.bool false]:Array Value).size:=aX OV.out.res.own _ _ (by simp);obtain⟨we,aZ⟩:∃ we,we=wr.setCells w.heap.size 0 [.slice va ws.length vc,.bool false]:=⟨_,rfl⟩
   have dP:we.rangeAt w.heap.size 0 [.slice va ws.length vc,.bool false]:=by rw[aZ];exact World.rangeAt_setCells_same _ _ _ _ bJ
   have fm:Hid (Bel w we):=by show Below _ _ _;rw[aZ];exact bW zE _ _ _ OV.out.bel
   have kx:Hid (TxR we (w.heap.size+1) (.slice va ws.length vc) ws):=by show TxR _ _ _ _;rw[aZ];exact ps OV.out.row (by omega) _
   clear Em;go_wp2_with (refine wpList_store_mid rfl 60 _ _ rfl w.heap.size 0 #[.slice va ws.length vc,.bool false] rfl rfl bJ (by kernel_rfl) (by simp[Value.oneCell']) ?_)
   first|rw[← aZ]|(simp only[Xi];rw[← aZ])
   try simp only[Act.put]
   refine bodyPost_ret (v:=.agg #[.slice va ws.length vc,.bool false]) (by simp[results,Tryz.results112,asAddr,run_loadVar_mid (P:=Tryz.prog) _ _ _ 60 [.slice va ws.length vc,.bool false] _ dP Tryz.underlying60 rfl (by kernel_rfl)]) rfl ?_;exact KF w _ ws _ HR.out we fm.out kx.out
  have h0:=Pl.gK x fc;obtain⟨c,OS⟩:∃ c,c=x[0]:=⟨_,rfl⟩
  obtain⟨r,hr⟩:∃ r,r=x.data.toList.drop 1:=⟨_,rfl⟩
  have lY:x.data.toList=c::r:=by
   have:=Pl.dB x 0 (by omega);rw[Ya]at this;rw[OS,hr];exact this
  have nO:=uh (Em c r lY);have yI:r.length+1=x.size:=by rw[← Pl.aD,lY,Xm]
  have Tr:Hid (∀ W,Calls Tryz.prog 136 #[.string x] W fun e w'=>e=.returned (if c.toNat=34 then .iface 238 (.agg #[]) else .iface 216 (.agg #[]))∧W=w'):=by rw[OS];exact fun W=>Al x W fc
  rw[lY]at uP;have IN:((if c.toNat=34 then Value.iface 238 (.agg #[]) else .iface 216 (.agg #[]))=.iface 238 (.agg #[])∧∀ W,Calls Tryz.prog 221 #[.agg #[],.string x] W (ScA c r W))∨((if c.toNat=34 then Value.iface 238 (.agg #[]) else .iface 216 (.agg #[]))=.iface 216 (.agg #[])∧∀ W,Calls Tryz.prog 130 #[.agg #[],.string x] W (ScA c r W)):=by
   by_cases h34:c.toNat=34
   ·exact No ⟨by rw[if_pos h34],fun W=>KE x c r W lY (by omega) h34⟩
   ·exact Xk ⟨by rw[if_neg h34],fun W=>QG x c r W lY (by omega) h34⟩
  have hme:=QW;have hmf:=QY;rcases IN with⟨V8,Oy⟩|⟨V8,Oy⟩
  all_goals
   rw[V8]at Tr;have nQ:=uh Oy;clear V8 Oy lY OS hr Em;go_wp2_with fail
   refine(Tr.out _).mono ?_;rintro e w1 ⟨rfl,gB⟩;subst gB;go_wp2_with fail
   refine(nQ.out _).mono ?_;rintro e w1 ⟨cr,⟨K5,a1,a2,rfl⟩|⟨y,n,b,hye,nU,rfl⟩⟩
   ·have lP:Hid (Pl.bo s.data.toList 0=none):=by show _=_;rw[uP.out,Pl.QH r c _ nO.out.1 nO.out.2 K5];rfl
    have DY:=uh (OV.out.later cr);clear K5 cr OV nQ hme hmf;have bJ:w1.there w.heap.size 0 (#[.slice none 0 0,.bool true]:Array Value).size:=aX DY.out.res.own _ _ (by simp);obtain⟨we,aZ⟩:∃ we,we=w1.setCells w.heap.size 0 [.slice none 0 0,.bool true]:=⟨_,rfl⟩
    have dP:we.rangeAt w.heap.size 0 [.slice none 0 0,.bool true]:=by rw[aZ];exact World.rangeAt_setCells_same _ _ _ _ bJ
    have fm:Hid (Bel w we):=by show Below _ _ _;rw[aZ];exact bW zE _ _ _ DY.out.bel
    go_wp2_with (refine wpList_store_mid rfl 60 _ _ rfl w.heap.size 0 #[.slice none 0 0,.bool true] rfl rfl bJ (by kernel_rfl) (by simp[Value.oneCell']) ?_)
    first|rw[← aZ]|(simp only[Xi];rw[← aZ])
    try simp only[Act.put]
    refine bodyPost_ret (v:=.agg #[.slice none 0 0,.bool true]) (by simp[results,Tryz.results112,asAddr,run_loadVar_mid (P:=Tryz.prog) _ _ _ 60 [.slice none 0 0,.bool true] _ dP Tryz.underlying60 rfl (by kernel_rfl)]) rfl ?_;exact jZ w _ lP.out we fm.out
   have DY:=uh (OV.out.later cr);have HYE:=uh hye;have HBD:=uh nU;have hbs:b.size≤r.length:=by
    have e:b.data.toList=r.drop n:=by rw[← Pl.tl];exact nU
    rw[← Pl.aD,e,Xy];omega
   have Pk:=uh (fun W=>KD b W);have HBE:Hid (b.data.toList=r.drop n):=by show _=_;rw[← Pl.tl];exact nU
   rw[HBE.out]at Pk;obtain⟨X,hX⟩:∃ X:ByteArray,X=⟨y.toArray⟩:=⟨_,rfl⟩
   have tm:=uh hX;have hXl:X.size=y.length:=by rw[hX];rfl
   rw[← hX];clear hX hye nU cr OV nQ hme hmf;have nJ:=uh (fun h=>Pl.QB r c ws.length y n nO.out.1 nO.out.2 HYE.out h);have Tt:=uh (fun h=>Pl.QK r c ws.length y n nO.out.1 nO.out.2 HYE.out h);cases hA:Pl.behind (r.drop n)
   ·have lP:Hid (Pl.bo s.data.toList 0=none):=by show _=_;rw[uP.out,nJ.out (by simp[hA])];rfl
    rw[hA]at Pk;clear hA;go_wp2_with fail
    refine(Pk.out _).mono ?_;rintro e w2 ⟨rfl,fw⟩;subst fw;have bJ:w1.there w.heap.size 0 (#[.slice none 0 0,.bool true]:Array Value).size:=aX DY.out.res.own _ _ (by simp);obtain⟨we,aZ⟩:∃ we,we=w1.setCells w.heap.size 0 [.slice none 0 0,.bool true]:=⟨_,rfl⟩
    have dP:we.rangeAt w.heap.size 0 [.slice none 0 0,.bool true]:=by rw[aZ];exact World.rangeAt_setCells_same _ _ _ _ bJ
    have fm:Hid (Bel w we):=by show Below _ _ _;rw[aZ];exact bW zE _ _ _ DY.out.bel
    go_wp2_with (refine wpList_store_mid rfl 60 _ _ rfl w.heap.size 0 #[.slice none 0 0,.bool true] rfl rfl bJ (by kernel_rfl) (by simp[Value.oneCell']) ?_)
    first|rw[← aZ]|(simp only[Xi];rw[← aZ])
    try simp only[Act.put]
    refine bodyPost_ret (v:=.agg #[.slice none 0 0,.bool true]) (by simp[results,Tryz.results112,asAddr,run_loadVar_mid (P:=Tryz.prog) _ _ _ 60 [.slice none 0 0,.bool true] _ dP Tryz.underlying60 rfl (by kernel_rfl)]) rfl ?_;exact jZ w _ lP.out we fm.out
   have HAA:=uh hA;rw[hA]at Pk;clear hA;by_cases hB:(200:Int)<(X.size:Int)
   ·have lP:Hid (Pl.bo s.data.toList 0=none):=by show _=_;rw[uP.out,nJ.out (by simp;omega)];rfl
    go_wp2_with fail
    refine(Pk.out _).mono ?_;rintro e w2 ⟨rfl,fw⟩;subst fw;have bJ:w1.there w.heap.size 0 (#[.slice none 0 0,.bool true]:Array Value).size:=aX DY.out.res.own _ _ (by simp);obtain⟨we,aZ⟩:∃ we,we=w1.setCells w.heap.size 0 [.slice none 0 0,.bool true]:=⟨_,rfl⟩
    have dP:we.rangeAt w.heap.size 0 [.slice none 0 0,.bool true]:=by rw[aZ];exact World.rangeAt_setCells_same _ _ _ _ bJ
    have fm:Hid (Bel w we):=by show Below _ _ _;rw[aZ];exact bW zE _ _ _ DY.out.bel
    go_wp2_with (refine wpList_store_mid rfl 60 _ _ rfl w.heap.size 0 #[.slice none 0 0,.bool true] rfl rfl bJ (by kernel_rfl) (by simp[Value.oneCell']) ?_)
    first|rw[← aZ]|(simp only[Xi];rw[← aZ])
    try simp only[Act.put]
    refine bodyPost_ret (v:=.agg #[.slice none 0 0,.bool true]) (by simp[results,Tryz.results112,asAddr,run_loadVar_mid (P:=Tryz.prog) _ _ _ 60 [.slice none 0 0,.bool true] _ dP Tryz.underlying60 rfl (by kernel_rfl)]) rfl ?_;exact jZ w _ lP.out we fm.out
   by_cases hC:ws.length=8
   ·have lP:Hid (Pl.bo s.data.toList 0=none):=by show _=_;rw[uP.out,nJ.out (by simp;omega)];rfl
    have d8:((ws.length:Int)==8)=true:=by simp;omega
    go_wp2_with fail
    refine(Pk.out _).mono ?_;rintro e w2 ⟨rfl,fw⟩;subst fw;have bJ:w1.there w.heap.size 0 (#[.slice none 0 0,.bool true]:Array Value).size:=aX DY.out.res.own _ _ (by simp);obtain⟨we,aZ⟩:∃ we,we=w1.setCells w.heap.size 0 [.slice none 0 0,.bool true]:=⟨_,rfl⟩
    have dP:we.rangeAt w.heap.size 0 [.slice none 0 0,.bool true]:=by rw[aZ];exact World.rangeAt_setCells_same _ _ _ _ bJ
    have fm:Hid (Bel w we):=by show Below _ _ _;rw[aZ];exact bW zE _ _ _ DY.out.bel
    go_wp2_with (refine wpList_store_mid rfl 60 _ _ rfl w.heap.size 0 #[.slice none 0 0,.bool true] rfl rfl bJ (by kernel_rfl) (by simp[Value.oneCell']) ?_)
    first|rw[← aZ]|(simp only[Xi];rw[← aZ])
    try simp only[Act.put]
    refine bodyPost_ret (v:=.agg #[.slice none 0 0,.bool true]) (by simp[results,Tryz.results112,asAddr,run_loadVar_mid (P:=Tryz.prog) _ _ _ 60 [.slice none 0 0,.bool true] _ dP Tryz.underlying60 rfl (by kernel_rfl)]) rfl ?_;exact jZ w _ lP.out we fm.out
   have d8:((ws.length:Int)==8)=false:=by simp;omega
   have IG:Hid (Pl.bo s.data.toList 0=(Pl.bo (r.drop n) (ws++[X]).length).map ((ws++[X])++·)):=Pl.QJ uP.out (by rw[Tt.out (by rw[HAA.out];simp;omega),tm.out]);go_wp2_with fail
   refine(Pk.out _).mono ?_;rintro e w2 ⟨rfl,fw⟩;subst fw;go_wp2_with (refine qj rfl _ _ rfl (w.heap.size+1) (.slice va ws.length vc) ws rfl (DY.out.row.later (af zR _)) w1.heap.size 1 1 [X] rfl rfl (World.news_of_block (cs:=#[.string X]) (heap_alloc_new w1 _)) (by decide) (by omega) (by have:=DY.out.bel.size;have:=DY.out.res.own.lt;simp;omega) ?_;intro g1 c1 w3 q1 q2)
   refine(nL.out _ _).mono ?_;rintro e w4 ⟨x',rfl,N7,Sq,p4⟩;subst p4;have D4:=DY.out.later (af zR (.cells #[.string X] 9));have p5:(Value.slice va ws.length vc).ownBlock≠some w.heap.size:=fun e=>by have:=(aW D4.row e).1;omega
   have y7:Hid (WI w w3 (.slice (some ⟨g1,0,none⟩) (ws.length+1) c1) (ws++[X])):=⟨D4.row.below D4.bel q2 (by omega),D4.res.grow q2 p5,q1⟩
   have Rp:Hid (Pl.bo s.data.toList 0=(Pl.bo x'.data.toList (ws++[X]).length).map ((ws++[X])++·)∧∀ c r,x'.data.toList=c::r→c.toNat≠32∧c.toNat≠35):=by
    refine⟨?_,fun c' r' h=>Pl.rJ (l:=b.data.toList) (by rw[← N7,h])⟩;rw[IG.out,N7,Pl.x7,HBE.out]
   clear N7 q1 q2 p5 D4;go_wp2;go_roundw
   case rel=>exact⟨ws++[X],x',rfl,by omega,by simp;omega,y7.out,Rp.out.1,Rp.out.2⟩
   case measure=>simp[vH];omega
theorem Tryz.KK:(Tryz.prog.info? 9).map (fun i=>(i.zero,i.size,decide (i.bytes≤4096)))=some (some (.string ByteArray.empty),1,true):=by kernel_rfl
theorem Tryz.Gz:Tryz.prog.underlying 38=some (.slice 9):=by kernel_rfl
theorem KJ (n:Nat) (h:n≤1048576):∃ cs:Array Value,cs.size=n*1∧∀ W:World,
  (Instr.makeSlice 38 (.int .i64 (n:Int)) (.int .i64 (n:Int))).run Tryz.prog W=.ok (.slice (some ⟨W.heap.size,0,none⟩) n n) (W.alloc (.cells cs 9)):=by
 obtain⟨i,hi,Om⟩:=XH.1 Tryz.KK;simp only[Prod.mk.injEq,decide_eq_true_eq]at Om;obtain⟨hz,hs,hb⟩:=Om;refine⟨madeCells ((.string ByteArray.empty):Value).cells (n*1),size_madeCells _ _,fun W=> ?_⟩;have Eh:(i.bytes:Int)*(n:Int)≤281474976710656:=by
  have e:((i.bytes*n:Nat):Int)≤((4096*1048576:Nat):Int):=Int.ofNat_le.2 (Nat.mul_le_mul hb h);rw[Int.natCast_mul]at e;exact Int.le_trans e (by decide)
 have hr:=run_make (P:=Tryz.prog) W 38 9 i _ Tryz.Gz hi hz .i64 .i64 n n (by omega) (Int.le_refl _) Eh (by omega);simp only[Int.toNat_natCast,hs]at hr;exact hr
namespace Pl
def spA (acc:List UInt8):List UInt8→List (List UInt8)
 |[]=> [acc]
 |c::l=>if c.toNat=10 then acc::spA [] l else spA (acc++[c]) l
def spS (s:ByteArray):List ByteArray:=(spA [] s.data.toList).map fun x=>⟨x.toArray⟩
theorem uY (c:UInt8):(c==(10:UInt8))=decide (c.toNat=10):=by
 rw[XB,beq_iff_eq,decide_eq_true_iff];exact⟨fun h=>by rw[h];rfl,fun h=>YP.1 h⟩
theorem qR:∀ (l acc:List UInt8),Lib.indexByte l 10= -1→spA acc l=[acc++l]
 |[],acc,_=>by simp[spA]
 |c::l,acc,h=>by
  unfold Lib.indexByte at h;rw[uY]at h;by_cases hc:c.toNat=10
  ·rw[decide_eq_true hc]at h;simp at h
  ·rw[decide_eq_false hc]at h;simp only[Yo,if_false]at h;have h':Lib.indexByte l 10= -1:=by
    have:=Lib.indexByte_ge l 10;split at h
    ·rename_i e;exact beq_iff_eq.1 e
    ·omega
   rw[spA,if_neg hc,qR l _ h'];simp
theorem qC:∀ (l acc:List UInt8) (m:Nat),Lib.indexByte l 10=(m:Nat)→m<l.length∧spA acc l=(acc++l.take m)::spA [] (l.drop (m+1))∧l.count 10=(l.drop (m+1)).count 10+1
 |[],_,m,h=>by simp only[Lib.indexByte]at h;omega
 |c::l,acc,m,h=>by
  unfold Lib.indexByte at h;rw[uY]at h;by_cases hc:c.toNat=10
  ·rw[decide_eq_true hc]at h;simp only[if_true]at h;have hm:m=0:=by omega
   subst hm;have e:c=10:=YP.1 hc;refine⟨by simp, ?_, ?_⟩
   ·rw[spA,if_pos hc];simp
   ·rw[e];simp
  ·rw[decide_eq_false hc]at h;simp only[Yo,if_false]at h;split at h
   ·omega
   ·rename_i dr
    obtain⟨k,rfl⟩:∃ k,m=k+1:=⟨m - 1,by
     have:=Lib.indexByte_ge l 10;have h3:Lib.indexByte l 10≠ -1:=fun e=>dr (by rw[e];rfl);omega⟩
    obtain⟨h1,h2,h3⟩:=qC l (acc++[c]) k (by omega);have lN:(c==(10:UInt8))=false:=by rw[uY,decide_eq_false hc]
    refine⟨by simp;omega, ?_, ?_⟩
    ·rw[spA,if_neg hc,h2];simp
    ·rw[List.count_cons,lN,h3];simp
theorem p6:∀ (l acc:List UInt8),(spA acc l).length=l.count 10+1
 |[],_=>rfl
 |c::l,acc=>by
  unfold spA;rw[List.count_cons,uY];by_cases hc:c.toNat=10
  ·rw[if_pos hc,decide_eq_true hc,Xm,p6 l];simp
  ·rw[if_neg hc,decide_eq_false hc,p6 l];simp
theorem BG (s:ByteArray):(spS s).length=s.data.toList.count 10+1:=by rw[spS,XT,p6]
theorem MX:∀ l:List UInt8,0<l.count 10→∃ m:Nat,Lib.indexByte l 10=(m:Nat):=fun l h=>by
 have:=Lib.indexByte_ge l 10;by_cases e:Lib.indexByte l 10= -1
 ·have h2:=qR l [] e;have h3:=p6 l [];rw[h2]at h3;simp at h3;omega
 ·exact⟨(Lib.indexByte l 10).toNat,by omega⟩
end Pl
theorem Ah (s:ByteArray) (c:UInt8) (w:World):
  Calls Tryz.prog 165 #[.string s,.int .u8 c.toNat] w fun e w'=>e=.returned (.int .i64 (Lib.indexByte s.data.toList c))∧w=w':=by
 have hc:((c.toNat:Int)).toNat.toUInt8=c:=by simp
 have HE:=uh hc;clear hc;go_enter Tryz.func165,Tryz.ntmps165
 go_wp2;rw[run_callFunc_extern Tryz.func176 (by kernel_rfl) (by kernel_rfl) (by kernel_rfl) (e:=Extern.BytealgIndexByte.indexByte) (by kernel_rfl),Lib.run_indexByteString];simp only[Result.andThen];rw[YU];rw[HE.out];go_wp2;go_ret;exact⟨rfl,rfl⟩
theorem J1 (s:ByteArray) (w:World):
  Calls Tryz.prog 134 #[.string s,.string {data:=#[10]}] w fun e w'=>e=.returned (.int .i64 (Lib.indexByte s.data.toList 10))∧w=w':=by
 obtain⟨R,hR⟩:∃ R,R=Lib.indexByte s.data.toList 10:=⟨_,rfl⟩
 have Az:=uh (Ah s 10 w);rw[← hR]at Az;have HC:Hid (Calls Tryz.prog 165 #[.string s,.int .u8 10] w fun e w'=>e=.returned (.int .i64 R)∧w=w'):=Az.out;have HR:=uh hR;rw[← hR];clear hR Az;go_enter Tryz.func134,Tryz.ntmps134
 cases hq:([10]==s.toList)
 ·go_wp2_with (first|(go_at_call 156;go_in)|(go_at_call 165;refine HC.out.mono ?_;rintro e w' ⟨rfl,rfl⟩))
  go_ret;exact⟨rfl,rfl⟩
 ·have HE:Hid (R=0):=by
   show R=0;have e:=beq_iff_eq.1 hq;rw[HR.out,← Pl.tl,← e];rfl
  go_wp2_with (first|(go_at_call 156;go_in)|(go_at_call 165;refine HC.out.mono ?_;rintro e w' ⟨rfl,rfl⟩))
  go_ret;exact⟨Pl.dj HE.out.symm,rfl⟩
theorem Ko (s:ByteArray) (w:World):
  Calls Tryz.prog 133 #[.string s,.string {data:=#[10]}] w fun e w'=>e=.returned (.int .i64 (s.data.toList.count 10:Nat))∧w=w':=by
 have HE:Hid ((((({data:=#[10]}:ByteArray)[0]'(by decide)).toNat:Int)).toNat.toUInt8=10):=rfl;go_enter Tryz.func133,Tryz.ntmps133
 go_wp2;rw[run_callFunc_extern Tryz.func155 (by kernel_rfl) (by kernel_rfl) (by kernel_rfl) (e:=Extern.BytealgCount.count) (by kernel_rfl),Lib.run_countString];simp only[Result.andThen];rw[YU];rw[HE.out];go_wp2;go_ret;exact⟨rfl,rfl⟩
theorem Da (s:ByteArray) (w:World) (hs:s.size≤1048000):
  Calls Tryz.prog 111 #[.string s,.string {data:=#[10]},.int .i64 0,.int .i64 (-1)] w fun e w'=>∃ g,e=.returned (.slice (some ⟨g,0,none⟩) (Pl.spS s).length (Pl.spS s).length)∧w.heap.size≤g∧aA w' g 9 ((Pl.spS s).map .string)∧Bel w w':=by
 obtain⟨n,hn⟩:∃ n,n=s.data.toList.count 10:=⟨_,rfl⟩
 have yS:(Pl.spS s).length=n+1:=by rw[Pl.BG,hn]
 have hns:n≤s.size:=by rw[hn,← Pl.aD];exact List.count_le_length
 have HC:=uh (Ko s w);rw[← hn]at HC;have HN:=uh hn;have kC:=uh yS;rw[yS];clear yS hn;obtain⟨zs,Av,pJ⟩:=KJ (n+1) (by omega);have Vv:min ((n:Int)+1) ((s.size:Int)+1)=((n+1:Nat):Int):=by omega
 have PL:=pJ w;go_enter Tryz.func111,Tryz.ntmps111
 go_upto_region 8 with(go_at_call 133;refine HC.out.mono ?_;rintro e w' ⟨rfl,rfl⟩)
 have HB:Hid (Bel w (w.alloc (.cells zs 9))):=af zR _;obtain⟨g,hg⟩:∃ g,g=w.heap.size:=⟨_,rfl⟩
 have HZ:Hid (w.heap.size≤g):=by show _≤_;omega
 have jk:Hid (aA (w.alloc (.cells zs 9)) g 9 zs.toList):=by
  show aA _ _ _ _;have q:=aA.new w zs.toList 9 g hg;simpa using q
 have HZL:Hid (zs.toList.length=n+1):=by show _=_;rw[Yk,Av,Nat.mul_one]
 obtain⟨wa,aP⟩:∃ wa,wa=w.alloc (.cells zs 9):=⟨_,rfl⟩
 rw[← aP]at PL HB jk;rw[← hg,show ((n+1:Nat):Int)=(n:Int)+1 by omega]at PL;go_upto_region 11 with fail
 rw[← aP,← hg];clear PL pJ Vv;clear aP hg;go_loopw [0,10] (fun v0 v10 wr=>∃ (i:Nat) (r:ByteArray) (cs:List Value),v0=.string r∧v10=.int .i64 i∧i≤n∧r.size≤s.size∧r.data.toList.count 10+i=n∧cs.length=n+1∧aA wr g 9 cs∧(∃ done:List ByteArray,done.length=i∧cs.take i=done.map .string∧Pl.spS s=done++Pl.spS r)∧Bel w wr) (fun _ i _=>n - (intOf i).toNat)
 case atStart=>exact⟨0,s,zs.toList,rfl,rfl,zN,zE,HN.out.symm,HZL.out,jk.out,⟨[],rfl,rfl,rfl⟩,HB.out⟩
 case round=>
  obtain⟨i,r,cs,rfl,rfl,hi,hr,Sj,fT,fL,⟨done,hd,yW,Ti⟩,hW⟩:=hrel;have Se:=uh fL;have HW:=uh hW;have HD:=uh (Xt hd (Xt yW Ti));have nO:=uh Sj;have jN:=uh fT;have bq:i<cs.length:=by omega
  obtain⟨y,hy⟩:∃ y,cs[i]? =some y:=⟨cs[i],by simp[bq]⟩
  have H8:=fL.get i y hy;have gh:=fL.own.lt;have hfz:=fL.own.frozen i;have hwi:IntKind.i64.wrap ((i:Int)+1)=(i:Int)+1:=by simp[IntKind.wrap,IntKind.bits,IntKind.signed];omega
  clear fL hW hd yW Ti Sj fT;by_cases iN:i<n
  ·obtain⟨m,hm⟩:=Pl.MX r.data.toList (by have:=nO.out;omega);obtain⟨dR,B3,Eo⟩:=Pl.qC r.data.toList [] m hm;have Rq:=uh (fun W=>J1 r W);rw[hm]at Rq;rw[Pl.aD]at dR;have DN:Hid (Pl.spS r=r.extract 0 m::Pl.spS (r.extract (m+1) r.size)):=by
    show _=_;unfold Pl.spS;rw[B3,XS,Yn];congr 1
    ·rw[← Pl.back (r.extract 0 m),Pl.eW];simp
    ·rw[Pl.eW];congr 2;rw[Xp (by rw[Xy,Pl.aD];omega)]
   have I3:Hid ((r.extract (m+1) r.size).data.toList.count 10+(i+1)=n):=by
    show _=_;rw[Pl.eW,Xp (by rw[Xy,Pl.aD];omega)];have:=nO.out;omega
   have lG:(0:Int)≤(m:Int):=by omega
   have lO:(m:Int)≤(r.size:Int):=by omega
   have Pd:(m:Int)+1≤(r.size:Int):=by omega
   have tg:¬ ((m:Int)<0):=by omega
   have hm4:(0:Int)≤(m:Int)+1:=by omega
   have iK:(0:Int)≤(i:Int):=by omega
   have gS:(i:Int)<((n+1:Nat):Int):=by omega
   have y4:r.size≤1048000:=by omega
   clear hm B3 Eo;go_wp2_with (go_at_call 134;refine(Rq.out _).mono ?_;rintro e w' ⟨rfl,rfl⟩)
   go_roundw
   case rel=>
    refine⟨i+1,r.extract (m+1) r.size,cs.set i (.string (r.extract 0 m)),rfl,by go_num,by omega, ?_,I3.out, ?_,Se.out.set i _ bq,⟨done++[r.extract 0 m], ?_, ?_, ?_⟩, ?_⟩
    ·rw[Yb];omega
    ·rw[YE];exact jN.out
    ·rw[At,HD.out.1];rfl
    ·have q:(cs.set i (.string (r.extract 0 m))).take (i+1)=cs.take i++[.string (r.extract 0 m)]:=by
      rw[XI (by rw[YE];exact bq),List.take_set_of_le zE,List.getElem_set_self]
     rw[q,HD.out.2.1,Yr];rfl
    ·rw[HD.out.2.2,DN.out,XG];rfl
    ·exact HW.out.setCell (p:=⟨g,i,none⟩) HZ.out _
   case measure=>simp[intOf];omega
  ·have Xc:i=n:=by omega
   subst Xc;have lE:Lib.indexByte r.data.toList 10= -1:=by
    have h0:r.data.toList.count 10=0:=by have:=nO.out;omega
    by_cases q:Lib.indexByte r.data.toList 10= -1
    ·exact q
    ·have:=Lib.indexByte_ge r.data.toList 10;obtain⟨_,_,h3⟩:=Pl.qC r.data.toList [] (Lib.indexByte r.data.toList 10).toNat (by omega);omega
   have DN:Hid (Pl.spS r=[r]):=by
    show _=_;unfold Pl.spS;rw[Pl.qR _ _ lE,Yn,XS,List.map_nil,Pl.back]
   have iK:(0:Int)≤(i:Int):=by omega
   have gS:(i:Int)<((i+1:Nat):Int):=by omega
   have HF:Hid (aA (wr.setCell ⟨g,i,none⟩ (.string r)) g 9 ((Pl.spS s).map .string)):=by
    show aA _ _ _ _;have q:=Se.out.set i (.string r) bq;have e:cs.set i (.string r)=(Pl.spS s).map .string:=by
     rw[HD.out.2.2,DN.out,Yr,← HD.out.2.1];apply List.ext_getElem?;intro j;rw[List.getElem?_set];have fT:=jN.out;have mN:(cs.take i).length=i:=by rw[Xo];omega
     by_cases hj:i=j
     ·subst hj;rw[if_pos rfl,if_pos bq,Ym (by omega),mN,Nat.sub_self];rfl
     ·rw[if_neg hj];by_cases Mr:j<i
      ·rw[YN (by omega),XO,if_pos Mr]
      ·rw[Ym (by omega),mN,YJ (by omega)];rw[YJ (by simp;omega)]
    rw[← e];exact q
   clear lE;go_wp2;go_ret;exact⟨g,rfl,HZ.out,HF.out,HW.out.setCell (p:=⟨g,i,none⟩) HZ.out _⟩
theorem Ng (s:ByteArray) (w:World) (hs:s.size≤1048000):
  Calls Tryz.prog 83 #[.string s,.string {data:=#[10]}] w fun e w'=>∃ g,e=.returned (.slice (some ⟨g,0,none⟩) (Pl.spS s).length (Pl.spS s).length)∧w.heap.size≤g∧aA w' g 9 ((Pl.spS s).map .string)∧Bel w w':=by
 have HC:=uh (Da s w hs);go_enter Tryz.func83,Tryz.ntmps83
 go_wp2_with (go_at_call 111;refine HC.out.mono ?_;rintro e w' ⟨g,rfl,h1,h2,h3⟩)
 go_ret;exact⟨g,rfl,h1,h2,h3⟩
namespace Pl
theorem vF:∀ (l acc:List UInt8),spA acc l≠ []
 |[],_=>by simp[spA]
 |c::l,acc=>by
  unfold spA;split
  ·simp
  ·exact vF l _
theorem Ak:∀ (l acc:List UInt8),mf acc l=if ((spA acc l).getLast (vF l acc)).isEmpty then (spA acc l).dropLast else spA acc l
 |[],acc=>by
  simp only[mf,spA,List.getLast_singleton,List.dropLast_singleton]
 |c::l,acc=>by
  by_cases hc:c.toNat=10
  ·have e:spA acc (c::l)=acc::spA [] l:=by rw[spA,if_pos hc]
   have ih:=Ak l [];have dr:=vF l [];rw[mf,if_pos hc,ih];simp only[e];rw[List.getLast_cons dr,List.dropLast_cons_of_ne_nil dr];split<;>rfl
  ·have e:spA acc (c::l)=spA (acc++[c]) l:=by rw[spA,if_neg hc]
   rw[mf,if_neg hc,Ak l (acc++[c])];simp only[e]
theorem Dq (s:ByteArray):∃ m,(spS s).length=m+1∧(((spS s).getD m aJ).size=0→fz s=(spS s).take m)∧(((spS s).getD m aJ).size≠0→fz s=spS s):=by
 have dr:=vF s.data.toList [];have hl:0<(spA [] s.data.toList).length:=List.length_pos_iff.2 dr;refine⟨(spA [] s.data.toList).length - 1,by rw[spS,XT];omega, ?_, ?_⟩
 all_goals
  intro h;have e:(spS s).getD ((spA [] s.data.toList).length - 1) aJ=⟨((spA [] s.data.toList).getLast dr).toArray⟩:=by
   rw[spS,Yf,List.getElem?_map,List.getLast_eq_getElem,YC (by omega)];rfl
  rw[e]at h;unfold fz;rw[Ak]
 ·have hz:((spA [] s.data.toList).getLast dr).isEmpty=true:=by
   have hh:((spA [] s.data.toList).getLast dr).length=0:=h;rw[List.isEmpty_iff,← List.length_eq_zero_iff];exact hh
  rw[if_pos hz,spS,List.dropLast_eq_take,List.map_take]
 ·have hz:((spA [] s.data.toList).getLast dr).isEmpty=false:=by
   have hh:((spA [] s.data.toList).getLast dr).length≠0:=h;rw[List.isEmpty_eq_false_iff];intro q;rw[q]at hh;exact hh rfl
  rw[if_neg (by rw[hz];simp)];rfl
theorem Gb {p:Option Addr} {a b c:Nat} {z:Int} (h:b=a) (hz:z=(b:Int)):Ending.returned (.tuple #[.slice p a c,.bool (decide (z≤400))])=.returned (.tuple #[.slice p b c,.bool (decide (b≤400))]):=by
 subst h;subst hz;congr 6;rw[XB,decide_eq_true_iff,decide_eq_true_iff];omega
end Pl
theorem GS (W:World):∀ xs:List ByteArray,Raw W (bF xs.length [.s]) (txD xs) (xs.map .string)
 |[]=> .nil
 |x::xs=>by rw[Xm,dk];exact .s x (GS W xs)
theorem qQ {W:World} {g m c:Nat} {L:List ByteArray} (h:aA W g 9 (L.map .string)) (hm:m≤L.length) (hl:L.length≤c) (hc:c≤1048576):Raw W bm [.row m (txD (L.take m))] [.slice (some ⟨g,0,none⟩) m c]:=by
 have e:(L.take m).length=m:=by rw[Xo];omega
 have q:=GS W (L.take m);rw[e]at q;refine .row 9 [.s] g 0 m c _ _ h.own.lt ⟨by unfold maxLen;omega,by omega⟩ ?_ q .nil;intro j v hv;refine h.at_ j v ?_;rw[List.getElem?_map,XO]at hv;rw[List.getElem?_map];split at hv
 ·exact hv
 ·cases hv
def Bh (s:ByteArray) (e:Ending) (W:World):Prop:=
 if 20000<s.size then e=.returned (.tuple #[.slice none 0 0,.bool false])
 else ∃ g c,e=.returned (.tuple #[.slice (some ⟨g,0,none⟩) (Pl.fz s).length c,.bool (decide ((Pl.fz s).length≤400))])∧Raw W bm [.row (Pl.fz s).length (txD (Pl.fz s))] [.slice (some ⟨g,0,none⟩) (Pl.fz s).length c]
theorem yx (s:ByteArray) (w:World) (hs:s.size≤maxLen):
  Calls Tryz.prog 63 #[.string s] w fun e w'=>Bh s e w'∧Bel w w':=by
 unfold Bh;by_cases h0:20000<s.size
 ·have d0:((20000:Int)<(s.size:Int)):=by omega
  simp only[if_pos h0];unfold maxLen at hs;go_enter Tryz.func63,Tryz.ntmps63
  go_wp2;go_ret2;exact⟨rfl,zR⟩
 simp only[if_neg h0];have d0:¬ ((20000:Int)<(s.size:Int)):=by omega
 have HC:=uh (Ng s w (by omega));unfold maxLen at hs;obtain⟨m,hm,hz,O4⟩:=Pl.Dq s;have HZ:=uh hz;have Ry:=uh O4;have HM:=uh hm;have Lw:m≤20000:=by
  have h1:=Pl.BG s;have h2:s.data.toList.count 10≤s.data.toList.length:=List.count_le_length;rw[Pl.aD]at h2;omega
 clear hz O4;rw[hm]at HC;clear hm;go_enter Tryz.func63,Tryz.ntmps63
 go_wp2_with fail
 refine HC.out.mono ?_;rintro e w1 ⟨g,rfl,hg,fL,hb⟩;have jk:=uh fL;have HB:=uh hb;obtain⟨x,hx⟩:∃ x,x=(Pl.spS s).getD m Pl.aJ:=⟨_,rfl⟩
 rw[← hx]at HZ Ry;have dR:m<(Pl.spS s).length:=by have:=HM.out;omega
 have hc:w1.cell? ⟨g,m,none⟩=some (.string x):=by
  refine fL.get m _ ?_;rw[List.getElem?_map,hx,Yf,YC dR];rfl
 have gh:=fL.own.lt;clear fL hb HC hx;have lG:(0:Int)≤(m:Int):=by omega
 have lO:(m:Int)<((m+1:Nat):Int):=by omega
 by_cases DL:x.size=0
 ·have PH:x=⟨#[]⟩:=by
   cases x with
   |mk a=>have:a.size=0:=DL;rw[Array.size_eq_zero_iff]at this;rw[this]
  have HL:=uh (HZ.out DL);subst PH;have O3:Hid ((Pl.fz s).length=m):=by show _=_;rw[HL.out,Xo];omega
  have Cf:Hid (Raw w1 bm [.row (Pl.fz s).length (txD (Pl.fz s))] [.slice (some ⟨g,0,none⟩) (Pl.fz s).length (m+1)]):=by
   show Raw _ _ _ _;rw[O3.out,HL.out];exact qQ jk.out (by omega) (by have:=HM.out;omega) (by omega)
  clear DL;go_wp2;go_ret2;exact⟨⟨g,m+1,Pl.Gb O3.out (by rw[O3.out];try rfl),Cf.out⟩,HB.out⟩
 ·have HL:=uh (Ry.out DL);have PH:(x.toList==[])=false:=by
   rw[beq_eq_false_iff_ne,Pl.tl];intro q;apply DL;have:=congrArg List.length q;simpa using this
  have O3:Hid ((Pl.fz s).length=m+1):=by show _=_;rw[HL.out];exact HM.out
  have Cf:Hid (Raw w1 bm [.row (Pl.fz s).length (txD (Pl.fz s))] [.slice (some ⟨g,0,none⟩) (Pl.fz s).length (m+1)]):=by
   show Raw _ _ _ _;have q:=qQ (m:=m+1) (c:=m+1) jk.out (by omega) (by have:=HM.out;omega) (by omega);rw[Xp (by have:=HM.out;omega)]at q;rw[O3.out,HL.out];exact q
  clear DL;go_wp2;go_ret2;exact⟨⟨g,m+1,Pl.Gb O3.out (by rw[O3.out];try rfl),Cf.out⟩,HB.out⟩
namespace Pl
def aY (x:ByteArray):List ByteArray:=(bo x.data.toList 0).getD []
def cJ (x:ByteArray):Bool:=(bo x.data.toList 0).isNone
theorem Dm {x:ByteArray} (h:(aY x).length=0) (hb:cJ x=false):bo x.data.toList 0=some []:=by
 unfold aY at h;unfold cJ at hb;cases hc:bo x.data.toList 0 with
 |none=>rw[hc]at hb;cases hb
 |some ws=>rw[hc]at h;exact congrArg some (Xs h)
def blank (ls:List ByteArray) (i j:Nat):Prop:=∀ m,i≤m→m<j→bo (ls.getD m aJ).data.toList 0=some []
theorem blank.step {ls:List ByteArray} {i j:Nat} (h:blank ls i j) (hj:bo (ls.getD j aJ).data.toList 0=some []):blank ls i (j+1):=fun m h1 h2=>by
 by_cases e:m=j
 ·rw[e];exact hj
 ·exact h m h1 (by omega)
end Pl
theorem T9 (x:ByteArray) (W:World) (nw:Nat) (hnw:nw≤W.heap.size) (hs:x.size≤1048576):
  Calls Tryz.prog 112 #[.string x] W fun e W'=>∃ a c F,e=.returned (.agg #[.slice a (Pl.aY x).length c,.bool (Pl.cJ x)])∧Rep W' false bm F [.row (Pl.aY x).length (txD (Pl.aY x))] [.slice a (Pl.aY x).length c]∧F.Nodup∧(∀ b∈F,nw≤b)∧Bel W W':=by
 refine(xd x W hs).mono ?_;rintro e W' ⟨c,F,rfl,hr,l5,k9,hb⟩;have hd:nv x.data.toList=[.row (Pl.aY x).length (txD (Pl.aY x)),.b (Pl.cJ x)]:=by
  unfold nv Pl.aY Pl.cJ;cases Pl.bo x.data.toList 0<;>rfl
 rw[hd]at hr;obtain⟨F0,v0,rfl,rfl,h0⟩:=wS hr;obtain⟨a,c,e⟩:=h0.raw.aT;subst e;rw[Xl]at l5 k9;exact⟨a,c,F0,rfl,h0,l5,fun b hb=>Xg hnw (k9 b hb),hb⟩
def M6 (rb:Nat) (W:World):Nat:=match W.cell? ⟨rb,2,none⟩ with
 |some (.int _ n)=>n.toNat
 |_=>0
theorem B0 {rb:Nat} {W:World} {u:TypeId} {x y:Value} {n:Int} {l:List Value} (h:aA W rb u (x::y::.int .i64 n::l)):M6 rb W=n.toNat:=by
 unfold M6;rw[h.get 2 _ rfl]
theorem vJ (rb:Nat) (at_ code:Int) (w:World) (h:w.cell? ⟨rb,2,none⟩=some (.int .i64 at_)) (_:rb<w.heap.size):
  Calls Tryz.prog 113 #[.pointer (some ⟨rb,0,none⟩),.int .i64 code] w fun e w'=>e=.returned (.iface 100 (.agg #[.int .i64 at_,.int .i64 code]))∧w=w':=by
 go_enter Tryz.func113,Tryz.ntmps113
 go_wp2;go_ret;exact⟨rfl,rfl⟩
theorem Qu (rb:Nat) (ws:List ByteArray) (v:Value) (w:World) (h:w.cell? ⟨rb,3,none⟩=some v) (_:rb<w.heap.size) (hr:Raw w bm [.row ws.length (txD ws)] [v]):
  Calls Tryz.prog 86 #[.pointer (some ⟨rb,0,none⟩)] w fun e w'=>e=.returned (.bool (decide (ws.length=1)&&((ws.getD 0 Pl.aJ).toList==[101,110,100])))∧w=w':=by
 obtain⟨a,c,ev⟩:=hr.aT;subst ev;by_cases h1:ws.length=1
 ·rcases dK hr with⟨e0,_⟩|⟨p,o,c',hv,hp,_,aE⟩
  ·omega
  injection hv with g1 _ g3
  subst g1;subst g3;have y0:w.cell? ⟨p,o,none⟩=some (.string (ws.getD 0 Pl.aJ)):=by simpa using aE 0 (by omega)
  obtain⟨y,hy⟩:∃ y,y=ws.getD 0 Pl.aJ:=⟨_,rfl⟩
  rw[← hy]at y0 ⊢;rw[decide_eq_true h1,Bool.true_and];clear aE hy;rw[h1]at h;clear hr;have hw:Hid (ws.length=1):=h1;clear h1;go_enter Tryz.func86,Tryz.ntmps86
  go_wp2;go_ret;exact⟨rfl,rfl⟩
 ·rw[decide_eq_false h1,Bool.false_and];have d0:((ws.length:Int)==1)=false:=by simp;omega
  clear hr h1;go_enter Tryz.func86,Tryz.ntmps86
  go_wp2;go_ret;exact⟨rfl,rfl⟩
theorem NO (L:List Pl.Ln) (v:Value) (key:ByteArray) (w:World) (h:Raw w aV [bD L] [v]) (yS:L.length≤1048576):
  Calls Tryz.prog 116 #[v,.string key] w fun e w'=>e=.returned (.int .i64 (Pl.aR L key:Nat))∧Bel w w':=by
 have HH:=uh h;obtain⟨a,c,ev⟩:=h.aT;subst ev;clear h;go_enter Tryz.func116,Tryz.ntmps116
 go_wp2;go_loopw [5,10] (fun vc vi wr=>∃ k m:Nat,k≤L.length∧m≤k∧vi=.int .i64 k∧vc=.int .i64 m∧Pl.aR (L.take k) key=m∧Bel w wr) (fun _ vi _=>L.length - (intOf vi).toNat)
 case atStart=>exact⟨0,0,zN,zE,rfl,rfl,rfl,zR⟩
 case round=>
  obtain⟨k,m,hk,pJ,rfl,rfl,hc,hW⟩:=hrel;have HC:=uh hc;have HW:=uh hW;clear hc hW;by_cases bq:k<L.length
  rotate_left
  ·obtain rfl:k=L.length:=by omega
   have HE:Hid (m=Pl.aR L key):=by show m=_;rw[← HC.out,YG]
   go_wp2;go_ret;exact⟨by rw[← HE.out];rfl,HW.out⟩
  rcases bO HH.out with⟨e0,_⟩|⟨p,o,c',hv,hp,_,aE⟩
  ·omega
  injection hv with g1 _ g3
  subst g1;subst g3;obtain⟨ax,cx,hg,_⟩:=aE k bq;obtain⟨x,hx⟩:∃ x,x=L.getD k Pl.aK:=⟨_,rfl⟩
  rw[← hx]at hg;have eC:=aj hg hp HW.out;have x0:wr.cell? ⟨p,o+k*2,none⟩=some (.string x.key):=aF eC 0 _ rfl;have x1:wr.cell? ⟨p,o+k*2+1,none⟩=some (.slice ax x.ws.length cx):=aF eC 1 _ rfl;have LW:p<wr.heap.size:=zL hp HW.out.size;have cZ:(0:Int)≤(k:Int):=by omega
  have dy:(k:Int)<(L.length:Int):=by omega
  have B4:IntKind.i64.wrap ((m:Int)+1)=(m:Int)+1:=gJ _ (by omega) (by omega);have HN:Hid (Pl.aR (L.take (k+1)) key=if x.key.toList==key.toList then m+1 else m):=by
   show _=_;have e:L.getD k Pl.aK=L[k]:=by simp[bq]
   unfold Pl.aR at HC ⊢;rw[XI bq,YT,HC.out,hx,e];have c:List.countP (fun x=>Pl.eZ x.key key) [L[k]]=if Pl.eZ L[k].key key then 1 else 0:=by
    rw[List.countP_cons,List.countP_nil];simp
   rw[c];unfold Pl.eZ;cases L[k].key.toList==key.toList<;>rfl
  clear aE hg eC hx;cases hq:(x.key.toList==key.toList)
  ·rw[hq]at HN;go_wp2;go_roundw
   case rel=>exact⟨k+1,m,by omega,by omega,by go_num,rfl,HN.out,af HW.out _⟩
   case measure=>simp[intOf];omega
  ·rw[hq]at HN;go_wp2;go_roundw
   case rel=>exact⟨k+1,m+1,by omega,by omega,by go_num,by go_num,HN.out,af HW.out _⟩
   case measure=>simp[intOf];omega
def ED (rb:Nat) (mv:Value) (la:Option Addr) (lc:Nat) (ls:List ByteArray) (k:Nat) (bv:Value) (op:Int) (w:World) (e:Ending) (w':World):Prop:=
 (∃ j,k≤j∧j<ls.length∧Pl.blank ls k j∧e=.returned (.bool true)∧∃ a c F,aA w' rb 124 [mv,.slice la ls.length lc,.int .i64 ((j+1:Nat):Int),.slice a (Pl.aY (ls.getD j Pl.aJ)).length c,.bool (Pl.cJ (ls.getD j Pl.aJ)),bv,.int .i64 op]∧Rep w' false bm F [.row (Pl.aY (ls.getD j Pl.aJ)).length (txD (Pl.aY (ls.getD j Pl.aJ)))] [.slice a (Pl.aY (ls.getD j Pl.aJ)).length c]∧F.Nodup∧(∀ b∈F,w.heap.size≤b)∧(Pl.cJ (ls.getD j Pl.aJ)=true∨(Pl.aY (ls.getD j Pl.aJ)).length≠0)∧Marks (fun b=>b=rb) w w')∨
 (Pl.blank ls k ls.length∧e=.returned (.bool false)∧(∃ cw cb,aA w' rb 124 [mv,.slice la ls.length lc,.int .i64 (ls.length:Nat),cw,.bool cb,bv,.int .i64 op])∧Marks (fun b=>b=rb) w w')
def VXa (rb:Nat) (p:Nat) (o:Nat) (lc:Nat) (i:Nat) (ls:List ByteArray):Nat→Value→World→Prop
 |0,vv,_|1,vv,_|4,vv,_|5,vv,_=>vv=.pointer (some ⟨rb,0,none⟩)
 |2,vv,_=>vv=.pointer (some ⟨rb,2,none⟩)
 |3,vv,_=>vv=.int .i64 (i:Int)
 |6,vv,_=>vv=.pointer (some ⟨rb,1,none⟩)
 |7,vv,_=>vv=.slice (some ⟨p,o,none⟩) ls.length lc
 |8,vv,_=>vv=.int .i64 (ls.length:Int)
 |9,vv,_=>vv=.bool true
 |_,_,_=>True
theorem EW (rb:Nat) (p:Nat) (o:Nat) (lc:Nat) (i:Nat) (ls:List ByteArray):∀ jj vv W W',Bel W W'→VXa rb p o lc i ls jj vv W→VXa rb p o lc i ls jj vv W':=by
 intro jj vv W W' hb h;match jj with
 |0|1|2|3|4|5|6|7|8|9=>exact h
 |n+10=>exact trivial
def VXb (rb:Nat) (lc:Nat) (i:Nat) (la:Option Addr) (ls:List ByteArray):Nat→Value→World→Prop
 |0,vv,_|1,vv,_|4,vv,_|5,vv,_=>vv=.pointer (some ⟨rb,0,none⟩)
 |2,vv,_=>vv=.pointer (some ⟨rb,2,none⟩)
 |3,vv,_=>vv=.int .i64 (i:Int)
 |6,vv,_=>vv=.pointer (some ⟨rb,1,none⟩)
 |7,vv,_=>vv=.slice la ls.length lc
 |8,vv,_=>vv=.int .i64 (ls.length:Int)
 |9,vv,_=>vv=.bool false
 |_,_,_=>True
theorem Gj (rb:Nat) (lc:Nat) (i:Nat) (la:Option Addr) (ls:List ByteArray):∀ jj vv W W',Bel W W'→VXb rb lc i la ls jj vv W→VXb rb lc i la ls jj vv W':=by
 intro jj vv W W' hb h;match jj with
 |0|1|2|3|4|5|6|7|8|9=>exact h
 |n+10=>exact trivial
def VXc (rb:Nat) (p:Nat) (o:Nat) (lc:Nat) (i:Nat) (nw:Nat) (ls:List ByteArray) (x:ByteArray):Nat→Value→World→Prop
 |0,vv,_|1,vv,_|2,vv,_|5,vv,_|6,vv,_|12,vv,_=>vv=.pointer (some ⟨rb,0,none⟩)
 |3,vv,_=>vv=.pointer (some ⟨rb,1,none⟩)
 |4,vv,_=>vv=.slice (some ⟨p,o,none⟩) ls.length lc
 |7,vv,_=>vv=.pointer (some ⟨rb,2,none⟩)
 |8,vv,_=>vv=.int .i64 (i:Int)
 |9,vv,_=>vv=.pointer (some ⟨p,o+i,none⟩)
 |10,vv,_=>vv=.string x
 |11,vv,W=>∃ a c F,vv=.agg #[.slice a (Pl.aY x).length c,.bool (Pl.cJ x)]∧Rep W false bm F [.row (Pl.aY x).length (txD (Pl.aY x))] [.slice a (Pl.aY x).length c]∧F.Nodup∧∀ b∈F,nw≤b
 |13,vv,_=>vv=.pointer (some ⟨rb,3,none⟩)
 |_,_,_=>True
theorem EI (rb:Nat) (p:Nat) (o:Nat) (lc:Nat) (i:Nat) (nw:Nat) (ls:List ByteArray) (x:ByteArray):∀ jj vv W W',Bel W W'→VXc rb p o lc i nw ls x jj vv W→VXc rb p o lc i nw ls x jj vv W':=by
 intro jj vv W W' hb h;match jj with
 |0|1|2|3|4|5|6|7|8|9|10|12|13=>exact h
 |11=>
  obtain⟨a,c,F,h1,h2,h3,h4⟩:=h;exact⟨a,c,F,h1,h2.later hb,h3,h4⟩
 |n+14=>exact trivial
theorem Mc (rb:Nat) (mv:Value) (la:Option Addr) (lc:Nat) (ls:List ByteArray) (k:Nat) (cw bv:Value) (cb:Bool) (op:Int) (w0 w:World) (fB:aA w rb 124 [mv,.slice la ls.length lc,.int .i64 k,cw,.bool cb,bv,.int .i64 op]) (nK:Raw w0 bm [.row ls.length (txD ls)] [.slice la ls.length lc]) (aU:Bel w0 w) (OG:w0.heap.size≤rb) (hk:k≤ls.length) (kZ:∀ x∈ls,x.size≤1048576) (hlen:ls.length≤1048576):
  Calls Tryz.prog 84 #[.pointer (some ⟨rb,0,none⟩)] w (ED rb mv la lc ls k bv op w):=by
 have K6:=uh fB;have SQ:=uh nK;have dX:=uh aU;have wO:=uh OG;have jQ:=uh kZ;have Cf:Hid (rb<w.heap.size):=fB.own.lt;clear fB nK aU OG kZ;go_enter Tryz.func84,Tryz.ntmps84
 go_wp2_with fail
 go_loopw [2] (fun v2 wr=>v2=.bool false∧∃ (i:Nat) (cw:Value) (cb:Bool),k≤i∧i≤ls.length∧Pl.blank ls k i∧aA wr rb 124 [mv,.slice la ls.length lc,.int .i64 i,cw,.bool cb,bv,.int .i64 op]∧Marks (fun b=>b=rb) w wr) (fun _ wr=>ls.length - M6 rb wr)
 case atStart=>exact⟨rfl,k,cw,cb,zE,hk,fun m h1 h2=>by omega,K6.out,Marks.refl _ _⟩
 case round=>
  obtain⟨rfl,i,cw,cb,hki,hil0,yO,fB,pJ⟩:=hrel;have kX:=uh fB;have L0:=uh yO;have jK:=uh pJ;have jm:Hid (rb<wr.heap.size):=fB.own.lt;have Ec:Hid (Bel w0 wr):=pJ.below (fun b e=>by rw[e];exact wO.out) dX.out;clear fB yO pJ;by_cases bq:i<ls.length
  rotate_left
  ·have Pj:Hid (i=ls.length):=by show _=_;omega
   have uL:¬ ((i:Int)<(ls.length:Int)):=by omega
   go_upto_region 1 with fail
   refine RY.bs wr zR (VXb rb lc i la ls) (Gj _ _ _ _ _) (by kernel_rfl) (by kernel_rfl) (by kernel_rfl) (by kernel_rfl) ?_ ?_
   ·intro ii o' ho a X hX hk hd;have zrb:=kX.out.later hX;have zrbl:=zrb.own.lt;match ii,ho with
    |0,rfl|4,rfl=>
     exact RY.p (.pointer (some ⟨rb,0,none⟩)) (by simp[execOp,go_sem,RY.K hk 0 (.pointer (some ⟨rb,0,none⟩))])
    |1,rfl=>
     exact RY.p (.pointer (some ⟨rb,0,none⟩)) (by simp[execOp,go_sem,RY.E hd 0 3])
    |2,rfl=>
     exact RY.p (.pointer (some ⟨rb,2,none⟩)) (by simp[execOp,go_sem,RY.E hd 1 4])
    |3,rfl=>
     have e5:=RY.E hd 2 5;have ycl_:=zrb.get 2 _ rfl;exact RY.p (.int .i64 (i:Int)) (by simp[execOp,go_sem,e5,ycl_])
    |5,rfl=>
     exact RY.p (.pointer (some ⟨rb,0,none⟩)) (by simp[execOp,go_sem,RY.E hd 4 7])
    |6,rfl=>
     exact RY.p (.pointer (some ⟨rb,1,none⟩)) (by simp[execOp,go_sem,RY.E hd 5 8])
    |7,rfl=>
     have e9:=RY.E hd 6 9;have ycl_:=zrb.get 1 _ rfl;exact RY.p (.slice la ls.length lc) (by simp[execOp,go_sem,e9,ycl_])
    |8,rfl=>
     exact RY.p (.int .i64 (ls.length:Int)) (by simp[go_sem,RY.E hd 7 10])
    |9,rfl=>
     exact RY.p (.bool false) (by simp[execOp,go_sem,RY.E hd 3 6,RY.E hd 8 11,uL])
    |n+10,ho=>simp at ho
   intro X vs hX bn;have q12:vs 12=_:=bn 9 _ 12 rfl rfl;simp only[RY.aC,Act.put,so,As,An];rw[q12];generalize vs 3=s3,vs 4=s4,vs 5=s5,vs 6=s6,vs 7=s7,vs 8=s8,vs 9=s9,vs 10=s10,vs 11=s11;clear bn q12;have hU:=L0.out;have VW:=kX.out.later hX;rw[Pj.out]at hU VW;have H9:=uh (Xt hU VW);clear hU VW;go_wp2;go_ret;exact Xk ⟨H9.out.1,rfl,⟨cw,cb,H9.out.2⟩,jK.out.trans (Marks.bB _ hX)⟩
  ·rcases dK SQ.out with⟨e0,_⟩|⟨p,o,c',hv,hp,_,aE⟩
   ·omega
   injection hv with g1 _ g3
   subst g1;subst g3;have uL:(i:Int)<(ls.length:Int):=by omega
   have iK:(0:Int)≤(i:Int):=by omega
   obtain⟨x,hx⟩:∃ x,x=ls.getD i Pl.aJ:=⟨_,rfl⟩
   have tm:=uh hx;have y0:=aE i bq;rw[← hx]at y0;have cU:Hid (wr.rangeAt p (o+i) [.string x]):=by
    show World.rangeAt _ _ _ _;intro j v hv;cases j with
    |zero=>injection hv with hv;subst hv;exact(Ec.out.cell (p:=⟨p,o+i,none⟩) hp).trans y0
    |succ j=>cases hv
   have de:Hid (p<wr.heap.size):=zL hp Ec.out.size;have Ex:Hid (x.size≤1048576):=by
    have e:ls.getD i Pl.aJ=ls[i]:=by simp[bq]
    rw[hx,e];exact jQ.out _ (Xq bq)
   clear aE hx y0;go_upto_region 1 with fail
   refine RY.bs wr zR (VXa rb p o lc i ls) (EW _ _ _ _ _ _) (by kernel_rfl) (by kernel_rfl) (by kernel_rfl) (by kernel_rfl) ?_ ?_
   ·intro ii o' ho a X hX hk hd;have zrb:=kX.out.later hX;have zrbl:=zrb.own.lt;match ii,ho with
    |0,rfl|4,rfl=>
     exact RY.p (.pointer (some ⟨rb,0,none⟩)) (by simp[execOp,go_sem,RY.K hk 0 (.pointer (some ⟨rb,0,none⟩))])
    |1,rfl=>
     exact RY.p (.pointer (some ⟨rb,0,none⟩)) (by simp[execOp,go_sem,RY.E hd 0 3])
    |2,rfl=>
     exact RY.p (.pointer (some ⟨rb,2,none⟩)) (by simp[execOp,go_sem,RY.E hd 1 4])
    |3,rfl=>
     have e5:=RY.E hd 2 5;have ycl_:=zrb.get 2 _ rfl;exact RY.p (.int .i64 (i:Int)) (by simp[execOp,go_sem,e5,ycl_])
    |5,rfl=>
     exact RY.p (.pointer (some ⟨rb,0,none⟩)) (by simp[execOp,go_sem,RY.E hd 4 7])
    |6,rfl=>
     exact RY.p (.pointer (some ⟨rb,1,none⟩)) (by simp[execOp,go_sem,RY.E hd 5 8])
    |7,rfl=>
     have e9:=RY.E hd 6 9;have ycl_:=zrb.get 1 _ rfl;exact RY.p (.slice (some ⟨p,o,none⟩) ls.length lc) (by simp[execOp,go_sem,e9,ycl_])
    |8,rfl=>
     exact RY.p (.int .i64 (ls.length:Int)) (by simp[go_sem,RY.E hd 7 10])
    |9,rfl=>
     exact RY.p (.bool true) (by simp[execOp,go_sem,RY.E hd 3 6,RY.E hd 8 11,uL])
    |n+10,ho=>simp at ho
   intro X vs hX bn;have q12:vs 12=_:=bn 9 _ 12 rfl rfl;simp only[RY.aC,Act.put,so,As,An];rw[q12];generalize vs 3=s3,vs 4=s4,vs 5=s5,vs 6=s6,vs 7=s7,vs 8=s8,vs 9=s9,vs 10=s10,vs 11=s11;clear bn q12;have V5:=kX;have RN:=uh (kX.out.later hX);have HMK2_:Hid (Marks (fun b=>b=rb) w X):=jK.out.trans (Marks.bB _ hX);replace kX:=RN
   replace jK:=HMK2_
   replace cU:=uh (aj cU.out de.out hX)
   replace de:Hid (p<X.heap.size):=zL de.out hX.size
   replace jm:Hid (rb<X.heap.size):=zL jm.out hX.size
   obtain⟨wq,yN⟩:∃ wq,wq=X:=⟨_,rfl⟩
   rw[← yN]at kX jK cU de jm ⊢;clear yN hX RN HMK2_;have Js:=uh (fun (X:World) (hX:Bel wq X)=>T9 x X wq.heap.size hX.size Ex.out);go_upto_region 2 with fail
   refine RY.lk wq zR (VXc rb p o lc i wq.heap.size ls x) (EI _ _ _ _ _ _ _ _) (fun _ W'=>∃ ca cc F,aA W' rb 124 [mv,.slice (some ⟨p,o,none⟩) ls.length lc,.int .i64 (i:Int),.slice ca (Pl.aY x).length cc,.bool (Pl.cJ x),bv,.int .i64 op]∧Rep W' false bm F [.row (Pl.aY x).length (txD (Pl.aY x))] [.slice ca (Pl.aY x).length cc]∧F.Nodup∧(∀ b∈F,w.heap.size≤b)∧Marks (fun b=>b=rb) w W') 14 12 (by kernel_rfl) (by kernel_rfl) (by kernel_rfl) (by kernel_rfl) rfl [11,13] (by kernel_rfl) (by kernel_rfl) _ rfl rfl (by kernel_rfl) ?_ ?_ ?_
   ·intro ii o' ho wJ a X hX hk hd;have zrb:=kX.out.later hX;have zrbl:=zrb.own.lt;match ii,ho with
    |0,rfl|1,rfl|5,rfl=>
     exact RY.p (.pointer (some ⟨rb,0,none⟩)) (by simp[execOp,go_sem,RY.K hk 0 (.pointer (some ⟨rb,0,none⟩))])
    |2,rfl=>
     exact RY.p (.pointer (some ⟨rb,0,none⟩)) (by simp[execOp,go_sem,RY.E1 hd 1 14])
    |3,rfl=>
     exact RY.p (.pointer (some ⟨rb,1,none⟩)) (by simp[execOp,go_sem,RY.E1 hd 2 15])
    |4,rfl=>
     have e16:=RY.E1 hd 3 16;have ycl_:=zrb.get 1 _ rfl;exact RY.p (.slice (some ⟨p,o,none⟩) ls.length lc) (by simp[execOp,go_sem,e16,ycl_])
    |6,rfl=>
     exact RY.p (.pointer (some ⟨rb,0,none⟩)) (by simp[execOp,go_sem,RY.E1 hd 5 18])
    |7,rfl=>
     exact RY.p (.pointer (some ⟨rb,2,none⟩)) (by simp[execOp,go_sem,RY.E1 hd 6 19])
    |8,rfl=>
     have e20:=RY.E1 hd 7 20;have ycl_:=zrb.get 2 _ rfl;exact RY.p (.int .i64 (i:Int)) (by simp[execOp,go_sem,e20,ycl_])
    |9,rfl=>
     exact RY.p (.pointer (some ⟨p,o+i,none⟩)) (by simp[execOp,go_sem,RY.E1 hd 4 17,RY.E1 hd 8 21,iK,uL])
    |10,rfl=>
     have e22:=RY.E1 hd 9 22;have ypl_:=zL de.out hX.size;have ycl_:X.cell? ⟨p,o+i,none⟩=some (.string x):=by have q:=aF (aj cU.out de.out hX) 0 _ rfl;simpa using q
     exact RY.p (.string x) (by simp[execOp,go_sem,e22,ycl_])
    |11,rfl=>
     have e23:=RY.E1 hd 10 23;refine Xk ⟨112,#[.string x],by simp[go_sem,e23],(Js.out X hX).mono ?_⟩;rintro e W' ⟨a,c,F,rfl,h2,h3,h4,hb⟩;exact⟨_,rfl,hb,a,c,F,rfl,h2,h3,h4⟩
    |12,rfl=>
     exact RY.p (.pointer (some ⟨rb,0,none⟩)) (by simp[execOp,go_sem,RY.E1 hd 0 13])
    |13,rfl=>
     exact RY.p (.pointer (some ⟨rb,3,none⟩)) (by simp[execOp,go_sem,RY.E1 hd 12 25])
    |n+14,ho=>omega
   ·intro a X vals hX hk hV hd;obtain⟨ca,cc,F,e1,SY,l5,k9⟩:=hV 11 (by decide);have e2:a.eval (.tmp 24)=_:=(hd 11 _ 24 rfl rfl ⟨⟨11,.data⟩,by simp,rfl,rfl⟩ (by decide)).trans e1;have e3:a.eval (.tmp 26)=.pointer (some ⟨rb,3,none⟩):=(hd 13 _ 26 rfl rfl ⟨⟨13,.data⟩,by simp,rfl,rfl⟩ (by decide)).trans (hV 13 (by decide));have hO:=kX.out.later hX;have bJ:X.there rb 3 2:=aX hO.own _ _ (by simp);refine⟨X.setCells rb 3 [.slice ca (Pl.aY x).length cc,.bool (Pl.cJ x)],RY.dM _ _ _ rfl e3 e2 bJ (by kernel_rfl) (by simp[Value.oneCell']),ca,cc,F, ?_, ?_,l5, ?_, ?_⟩
    ·exact hO.Ud (x:=[mv,.slice (some ⟨p,o,none⟩) ls.length lc,.int .i64 (i:Int)]) (y:=[cw,.bool cb]) (z:=[bv,.int .i64 op]) [.slice ca (Pl.aY x).length cc,.bool (Pl.cJ x)] rfl
    ·exact SY.cO (bf (S:=fun b=>b=rb) rfl _ _ _) (fun b hb e=>by have:=k9 b hb;have:=jm.out;omega)
    ·exact fun b hb=>Xg jK.out.size (k9 b hb)
    ·exact(jK.out.trans (Marks.bB _ hX)).trans (bf (S:=fun b=>b=rb) rfl _ _ _)
   ·intro vals vs X hK bn;simp only[RY.aC,Act.put,so,As,An];generalize vs 13=s13,vs 14=s14,vs 15=s15,vs 16=s16,vs 17=s17,vs 18=s18,vs 19=s19,vs 20=s20,vs 21=s21,vs 22=s22,vs 23=s23,vs 24=s24,vs 25=s25,vs 26=s26;clear bn;obtain⟨ca,cc,F,fL,SY,l5,k9,pJ⟩:=hK;have HX:=uh (Xt fL (Xt SY (Xt l5 (Xt k9 pJ))));have y7:Hid (aA (X.setCell ⟨rb,2,none⟩ (.int .i64 ((i:Int)+1))) rb 124 [mv,.slice (some ⟨p,o,none⟩) ls.length lc,.int .i64 ((i:Int)+1),.slice ca (Pl.aY x).length cc,.bool (Pl.cJ x),bv,.int .i64 op]):=fL.set 2 _ (by simp);have Jv:Hid (Marks (fun b=>b=rb) X (X.setCell ⟨rb,2,none⟩ (.int .i64 ((i:Int)+1)))):=Marks.sc (S:=fun b=>b=rb) X rfl 2 _;have Qc:Hid (Rep (X.setCell ⟨rb,2,none⟩ (.int .i64 ((i:Int)+1))) false bm F [.row (Pl.aY x).length (txD (Pl.aY x))] [.slice ca (Pl.aY x).length cc]):=SY.cO Jv.out (fun b hb e=>by have:=k9 b hb;have:=Cf.out;omega);have c2:=fL.get 2 _ rfl;have cl:=fL.own.lt;have cf:=fL.own.frozen 2;have hwi:IntKind.i64.wrap ((i:Int)+1)=(i:Int)+1:=gJ _ (by omega) (by omega);obtain⟨Y,hY⟩:∃ Y,Y=X.setCell ⟨rb,2,none⟩ (.int .i64 ((i:Int)+1)):=⟨_,rfl⟩
    rw[← hY]at y7 Jv Qc;clear fL SY l5 k9 pJ;go_upto_region 4 with fail
    rw[← hY];clear hY c2 cl cf;have d3:=y7.out.get 3 _ rfl;have d4:=y7.out.get 4 _ rfl;have dl:=y7.out.own.lt;have OX:Hid (Marks (fun b=>b=rb) w Y):=HX.out.2.2.2.2.trans Jv.out;have qq:Hid (F.Nodup∧∀ b∈F,w.heap.size≤b):=⟨HX.out.2.2.1,HX.out.2.2.2.1⟩
    obtain⟨n,hn⟩:∃ n,n=(Pl.aY x).length:=⟨_,rfl⟩
    obtain⟨bad,mS⟩:∃ bad,bad=Pl.cJ x:=⟨_,rfl⟩
    rw[← hn]at y7 Qc d3;rw[← mS]at y7 d4;have kt:=uh (Xt hn mS);clear hn mS HX;cases bad
    ·by_cases MF:n=0
     ·have d5:¬ ((0:Int)<(n:Int)):=by omega
      have WJ:Hid (Pl.blank ls k (i+1)):=L0.out.step (by rw[← tm.out];exact Pl.Dm (by rw[← kt.out.1];exact MF) kt.out.2.symm);go_wp2;go_roundw
      case rel=>exact⟨rfl,i+1,_,_,by omega,by omega,WJ.out,y7.out,OX.out⟩
      case measure=>
       rw[B0 y7.out,B0 V5.out];omega
     ·have d5:((0:Int)<(n:Int)):=by omega
      go_wp2;go_ret;refine No ⟨i,by omega,by omega,L0.out,rfl,ca,cc,F, ?_, ?_,qq.out.1,qq.out.2, ?_,OX.out⟩
      ·have q:=y7.out;rw[kt.out.1,kt.out.2,tm.out]at q;exact q
      ·have q:=Qc.out;rw[kt.out.1,tm.out]at q;exact q
      ·exact Xk (by rw[← tm.out,← kt.out.1];exact MF)
    ·go_wp2;go_ret;refine No ⟨i,by omega,by omega,L0.out,rfl,ca,cc,F, ?_, ?_,qq.out.1,qq.out.2, ?_,OX.out⟩
     ·have q:=y7.out;rw[kt.out.1,kt.out.2,tm.out]at q;exact q
     ·have q:=Qc.out;rw[kt.out.1,tm.out]at q;exact q
     ·exact No (by rw[← tm.out,← kt.out.2])
theorem lJ (b off i:Nat):(Addr.add ⟨b,off,none⟩ i)=⟨b,off+i,none⟩:=by
 unfold Addr.add;split<;>simp_all
theorem Kd {w:World} {lo:Nat} {e:TypeId} {size:Nat} {v:Value} {n:Nat} {xs:List Value} (h:w.ownsRow lo e size v n xs):∃ a c,v=.slice a n c:=by
 rcases h.2 with⟨rfl,rfl⟩|⟨g,cap,cur,rfl,_⟩
 ·exact⟨_,_,rfl⟩
 ·exact⟨_,_,rfl⟩
theorem eP {W:World} {b:Nat} {o:Obj} (h:W.heap[b]? =some o):b<W.heap.size:=(Xh.1 h).1
theorem xw {W:World} {lo:Nat} {e:TypeId} {size n q:Nat} {p:Option Addr} {xs:List Value} (h:W.ownsRow lo e size (.slice p n q) n xs) (hn:0<n):∃ g cur,p=some ⟨g,0,none⟩∧lo≤g∧W.heap[g]? =some (.cells cur e (0,0))∧xs.length≤cur.size∧∀ j u,xs[j]? =some u→W.cell? ⟨g,j,none⟩=some u:=by
 obtain⟨hx,h⟩:=h;rcases h with⟨_,e⟩|⟨g,cap,cur,hv,cX,hg,hc,_,hs,ht⟩
 ·omega
 ·cases hv
  have hle:n*size≤cur.size:=by rw[hs];exact XJ size hc
  refine⟨g,cur,rfl,cX,hg,by rw[hx];exact hle,fun j u hj=> ?_⟩;rw[← ht,XO]at hj;simp only[World.cell?,hg];split at hj
  ·simpa using hj
  ·cases hj
section
variable {P:Program}
def seg (cur:Array Value) (o:Nat) (cs:List Value):Array Value:=(cur.toList.take o++cs++cur.toList.drop (o+cs.length)).toArray
theorem gI {cur:Array Value} {o:Nat} {cs:List Value} (h:o+cs.length≤cur.size):(seg cur o cs).size=cur.size:=by
 unfold seg;simp only[Yx,At,Xo,Xy,Yk];omega
theorem dC (w:World) (dT sT ty elem:TypeId) (size g o dLen dCap:Nat) (a:Addr) (sLen sCap:Nat) (cur:Array Value) (t:TypeId) (cs:List Value)
  (hu:P.underlying dT=some (.slice elem)) (hs:(P.info? elem).map (·.size)=some size)
  (hg:w.heap[g]? =some (.cells cur t (0,0))) (hn:cs.length=Nat.min sLen dLen*size)
  (wt:∀ j v,cs[j]? =some v→w.cell? (a.add j)=some v) (pX:o+cs.length≤cur.size) (h1:∀ v∈cs,v.oneCell'=true):
  (Builtin.copy_ #[dT,sT] ty #[.slice (some ⟨g,o,none⟩) dLen dCap,.slice (some a) sLen sCap]).run P w=
   .ok (goInt (Nat.min sLen dLen)) (w.setRow g (seg cur o cs)):=by
 have hl:=run_loadCells_list (P:=P) w a cs wt;have qw:=run_storeCells_at (P:=P) g o t cs 0 cur w hg (by simpa using pX) h1;rw[hn]at hl;simp only[Nat.add_zero]at qw;unfold seg;cases hq:P.info? elem with
 |none=>simp[hq]at hs
 |some i=>
  have hi:i.size=size:=by simpa [hq]using hs
  simp[Builtin.copy_,run_underlying hu,Builtin.lenOf,Builtin.firstCells,sizeOf,typeInfo,hq,hi,hl,qw]
theorem jS (cur:Array Value) (o:Nat) (cs:List Value):(seg cur o cs).toList=cur.toList.take o++cs++cur.toList.drop (o+cs.length):=rfl
theorem tS {l cs vs:List Value} {i n m:Nat} (hl:l.take n=cs) (hn:cs.length=n) (hm:vs.length=m) (hi:i≤n) (hr:n+m≤l.length) (cur:Array Value) (hc:cur.toList=l):
  (seg (seg cur (i+m) (cs.drop i)) i vs).toList.take (n+m)=cs.take i++vs++cs.drop i:=by
 have hd:(cs.drop i).length=n - i:=by rw[Xy,hn]
 have e1:(l.take (i+m)).length=i+m:=by rw[Xo];omega
 have e2:i+m+(cs.drop i).length=n+m:=by rw[hd];omega
 rw[jS,jS,hc,hm,e2];have a1:(l.take (i+m)++cs.drop i++l.drop (n+m)).take i=cs.take i:=by
  rw[XG,Yp (by omega),List.take_take,← hl,List.take_take];congr 1;omega
 have a2:(l.take (i+m)++cs.drop i++l.drop (n+m)).drop (i+m)=cs.drop i++l.drop (n+m):=by
  rw[XG,List.drop_append_of_le_length (by omega),Xz (by omega),Yn]
 rw[a1,a2,← XG,Yp (by simp only[At,Xo,hm,hd,hn];omega),Xp (by simp only[At,Xo,hm,hd,hn];omega)]
theorem xE {cs vs zs:List Value} {i n m:Nat} (hn:cs.length=n) (hm:vs.length=m) (hi:i≤n) (cur:Array Value) (hc:cur.toList=cs.take i++zs):
  (seg (seg cur i vs) (i+m) (cs.drop i)).toList.take (n+m)=cs.take i++vs++cs.drop i:=by
 have hd:(cs.drop i).length=n - i:=by rw[Xy,hn]
 have e0:(cs.take i).length=i:=by rw[Xo];omega
 rw[jS,jS,hc,hm];have a1:(cs.take i++zs).take i=cs.take i:=by rw[Yp (by omega),Xp (by omega)]
 rw[a1];have a2:(cs.take i++vs++(cs.take i++zs).drop (i+m)).take (i+m)=cs.take i++vs:=by
  rw[Yp (by rw[At];omega),Xp (by rw[At];omega)]
 rw[a2,Yp (by simp only[At,hm,hd,e0];omega),Xp (by simp only[At,hm,hd,e0];omega)]
structure jA (p:Option Addr) (v W:World):Prop where
 os:W.os=v.os
 tape:W.tape=v.tape
 output:W.output=v.output
 size:v.heap.size≤W.heap.size
 block:∀ b,b<v.heap.size→(∀ g,p=some ⟨g,0,none⟩→b≠g)→W.heap[b]? =v.heap[b]?
end
theorem fX {P:Program} {ops:Array Oper} {o:Oper} {a:Act} {w:World} {K:Act→World→Prop} {Q:Exit→Act→World→Prop} {E:Prop}
  (hg:o.guard=none) (d x:Operand) (dT sT:TypeId) (ij:o.op=Op.call {callee:=Callee.builtin Builtin.copy,args:=#[d,x],argTypes:=#[dT,sT]})
  (v u:Value) (hd:a.eval d=v) (hx:a.eval x=u) {v':Value} {w':World} (hr:(Builtin.copy_ #[dT,sT] o.type #[v,u]).run P w=.ok v' w') (hK:K (a.put o.dst v') w'):
  if Region.wanted o (yielded ops a.tmps)=true then Oper.wp P o a w K Q else E:=by
 have hw:Region.wanted o (yielded ops a.tmps)=true:=by simp[Region.wanted,hg]
 rw[if_pos hw];unfold Oper.wp;simp[execOp,ij,resolve,invoke,builtin,hd,hx,hr,Result.andThen];exact hK
theorem iE {W:World} {b:Nat} {cs:Array Value} {t:TypeId} (h:W.heap[b]? =some (.cells cs t (0,0))) (j:Nat):W.frozen? ⟨b,j,none⟩=false:=by simp[World.frozen?,h]
theorem Tryz.EO:(Tryz.prog.info? 58).map (fun i=>(i.zero,i.size,i.bytes))=some (some (.agg #[.string ByteArray.empty,.string ByteArray.empty,.slice none 0 0]),3,56):=by kernel_rfl
theorem Tryz.nt:Tryz.prog.underlying 24=some (.slice 58):=by kernel_rfl
theorem Fz (lo:Nat) (W:World) (p1:Option Addr) (n q:Nat) (xs vs:List Value) (h:W.ownsRow lo 58 3 (.slice p1 n q) n xs) (gc m qc:Nat) (hv:∀ j u,vs[j]? =some u→W.cell? ⟨gc,j,none⟩=some u) (ik:vs.length=m*3) (h9:∀ u∈vs,u.oneCell'=true) (hm:0<m) (hn:n+m≤1048576) (cX:lo≤W.heap.size):
  Calls Tryz.prog 115 #[.slice p1 n q,.int .i64 (n:Nat),.slice (some ⟨gc,0,none⟩) m qc] W fun e W'=>∃ g' q',e=.returned (.slice (some ⟨g',0,none⟩) (n+m) q')∧W'.ownsRow lo 58 3 (.slice (some ⟨g',0,none⟩) (n+m) q') (n+m) (xs++vs)∧jA p1 W W'∧(p1=some ⟨g',0,none⟩∨W.heap.size≤g'):=by
 have HH:=hid h;have HV:=hid hv;have B8:=hid ik;have AA:=hid h9;have mP:=hid cX;have RW:n≤q∧q≤maxLen:=by
  rcases h.2 with⟨e,e'⟩|⟨g,cap,cur,e,_,_,hc,uK,_⟩
  ·cases e;exact⟨zE,zN⟩
  ·cases e;exact⟨hc,uK⟩
 unfold maxLen at RW;obtain⟨P1,LH⟩:=RW;clear h hv ik h9 cX;obtain⟨i1,gS,ei1⟩:=XH.1 Tryz.EO;simp only[Prod.mk.injEq]at ei1;obtain⟨eV,kj,y5⟩:=ei1;have lO:¬ ((m:Int)=0):=by omega
 have MF:(0:Int)≤(n:Int):=by omega
 have hnq:(n:Int)≤(q:Int):=by omega
 cases p1 with
 |none=>
  obtain⟨rfl,rfl⟩:n=0∧q=0:=by
   rcases HH.out.2 with⟨e,e'⟩|⟨g,cap,cur,e,_⟩
   ·cases e;exact⟨e',rfl⟩
   ·cases e
  simp only[Xr];go_enter Tryz.func115,Tryz.ntmps115
  go_wp2_with (at_builtin;refine wpList_append_lies _ rfl _ _ 24 rfl lo 58 i1 _ 3 56 Tryz.nt gS eV kj y5 rfl (by decide) _ _ xs rfl HH.out ⟨gc,0,none⟩ m qc vs rfl ?a1x ?a2x ?a3x hm ?a4x ?a5x ?a6x _ rfl ?_)
  case a1x=>exact B8.out
  case a2x=>
   intro j u hj;rw[lJ,Xr];exact HV.out j u hj
  case a3x=>exact AA.out
  case a4x=>unfold maxLen;omega
  case a5x=>omega
  case a6x=>exact mP.out
  intro g' e1 w1 yQ iu il _;have Ic:Hid ((none:Option Addr)=some ⟨g',0,none⟩∨W.heap.size≤g'):=by
   rcases il with q|q
   ·first|exact No (by rw[← Option.some.inj q])|cases q
   ·exact Xk (by omega)
  have HO:=hid yQ;have HG:Hid (jA none W w1):=⟨iu.os,iu.tape,iu.output,iu.size,fun b hb dr=>iu.block b hb (fun e=>by cases e)⟩
  clear yQ iu il;go_wp2;go_ret;exact⟨g',e1,rfl,HO.out,HG.out,Ic.out⟩
 |some ad=>
  obtain⟨g0,rfl⟩:∃ g0,ad=⟨g0,0,none⟩:=by
   rcases HH.out.2 with⟨e,e'⟩|⟨g,cap,cur,e,_⟩
   ·cases e
   ·cases e;exact⟨g,rfl⟩
  by_cases I2:q=n
  ·subst I2;go_enter Tryz.func115,Tryz.ntmps115
   go_wp2_with (at_builtin;refine wpList_append_lies _ rfl _ _ 24 rfl lo 58 i1 _ 3 56 Tryz.nt gS eV kj y5 rfl (by decide) _ _ xs rfl HH.out ⟨gc,0,none⟩ m qc vs rfl ?a1y ?a2y ?a3y hm ?a4y ?a5y ?a6y _ rfl ?_)
   case a1y=>exact B8.out
   case a2y=>
    intro j u hj;rw[lJ,Xr];exact HV.out j u hj
   case a3y=>exact AA.out
   case a4y=>unfold maxLen;omega
   case a5y=>omega
   case a6y=>exact mP.out
   intro g' e1 w1 yQ iu il _;have Ic:Hid ((some ⟨g0,0,none⟩:Option Addr)=some ⟨g',0,none⟩∨W.heap.size≤g'):=by
    rcases il with q|q
    ·first|exact No (by rw[← Option.some.inj q])|cases q
    ·exact Xk (by omega)
   have HO:=hid yQ;have HG:Hid (jA (some ⟨g0,0,none⟩) W w1):=⟨iu.os,iu.tape,iu.output,iu.size,fun b hb dr=>iu.block b hb (fun e=>dr g0 rfl (by injection e))⟩
   clear yQ iu il;go_wp2;go_ret;exact⟨g',e1,rfl,HO.out,HG.out,Ic.out⟩
  ·have V9:¬ (n=q):=fun e=>I2 e.symm;go_enter Tryz.func115,Tryz.ntmps115
   go_wp2_with (at_builtin;refine wpList_append_lies _ rfl _ _ 24 rfl lo 58 i1 _ 3 56 Tryz.nt gS eV kj y5 rfl (by decide) _ _ xs rfl HH.out ⟨gc,0,none⟩ m qc vs rfl ?a1z ?a2z ?a3z hm ?a4z ?a5z ?a6z _ rfl ?_)
   case a1z=>exact B8.out
   case a2z=>
    intro j u hj;rw[lJ,Xr];exact HV.out j u hj
   case a3z=>exact AA.out
   case a4z=>unfold maxLen;omega
   case a5z=>omega
   case a6z=>exact mP.out
   intro g' e1 w1 yQ iu il _;have Ic:Hid ((some ⟨g0,0,none⟩:Option Addr)=some ⟨g',0,none⟩∨W.heap.size≤g'):=by
    rcases il with q|q
    ·first|exact No (by rw[← Option.some.inj q])|cases q
    ·exact Xk (by omega)
   have HO:=hid yQ;have HG:Hid (jA (some ⟨g0,0,none⟩) W w1):=⟨iu.os,iu.tape,iu.output,iu.size,fun b hb dr=>iu.block b hb (fun e=>dr g0 rfl (by injection e))⟩
   clear yQ iu il;go_wp2;go_ret;exact⟨g',e1,rfl,HO.out,HG.out,Ic.out⟩
theorem C1 (lo:Nat) (W:World) (g n q:Nat) (xs vs:List Value) (h:W.ownsRow lo 58 3 (.slice (some ⟨g,0,none⟩) n q) n xs) (fc:∀ u∈xs,u.oneCell'=true) (gc m qc:Nat) (mJ:Array Value) (tv:W.heap[gc]? =some (.cells mJ 58 (0,0))) (hv:∀ j u,vs[j]? =some u→W.cell? ⟨gc,j,none⟩=some u) (ik:vs.length=m*3) (h9:∀ u∈vs,u.oneCell'=true) (hm:0<m) (dr:gc≠g) (i:Nat) (hi:i<n) (hroom:n+m≤q) (hn:n+m≤1048576):
  Calls Tryz.prog 115 #[.slice (some ⟨g,0,none⟩) n q,.int .i64 (i:Nat),.slice (some ⟨gc,0,none⟩) m qc] W fun e W'=>∃ g' q',e=.returned (.slice (some ⟨g',0,none⟩) (n+m) q')∧W'.ownsRow lo 58 3 (.slice (some ⟨g',0,none⟩) (n+m) q') (n+m) (xs.take (i*3)++vs++xs.drop (i*3))∧jA (some ⟨g,0,none⟩) W W'∧(some (⟨g,0,none⟩:Addr)=some ⟨g',0,none⟩∨W.heap.size≤g'):=by
 obtain⟨iO,ke⟩:=h;rcases ke with⟨e,_⟩|⟨g',cap,cur,e,cX,hg,AF,uK,jn,yW⟩
 ·cases e
 cases e
 obtain⟨i1,gS,ei1⟩:=XH.1 Tryz.EO;simp only[Prod.mk.injEq]at ei1;obtain⟨eV,kj,y5⟩:=ei1;have kZ:(Tryz.prog.info? 58).map (·.size)=some 3:=by rw[gS];simp[kj]
 unfold maxLen at uK;have lO:¬ ((m:Int)=0):=by omega
 have kD:¬ ((i:Int)=(n:Int)):=by omega
 have UT:¬ ((q:Int)<(n:Int)+(m:Int)):=by omega
 have iK:(0:Int)≤(i:Int):=by omega
 have iN:(i:Int)≤(n:Int):=by omega
 have cr:(0:Int)≤(i:Int)+(m:Int):=by omega
 have UA:((i:Int)+(m:Int)).toNat=i+m:=by omega
 have WN:((n:Int)+(m:Int)).toNat=n+m:=by omega
 have dD:¬ (q=i+m):=by omega
 have ku:(i:Int)≤(n:Int)+(m:Int):=by omega
 have Tw:¬ (q=i):=by omega
 have oZ:(i:Int)+(m:Int)≤(n:Int)+(m:Int):=by omega
 have lM:(0:Int)≤(n:Int)+(m:Int):=by omega
 have oW:(n:Int)+(m:Int)≤(q:Int):=by omega
 have mixed:Tryz.prog.follows .mixedOrders=true:=by kernel_rfl
 have gB:IntKind.i64.wrap ((i:Int)+(m:Int))=(i:Int)+(m:Int):=gJ _ (by omega) (by omega);have fw:IntKind.i64.wrap ((n:Int)+(m:Int))=(n:Int)+(m:Int):=gJ _ (by omega) (by omega);have kk:(xs.drop (i*3)).length=(n - i)*3:=by rw[Xy,iO,Nat.sub_mul]
 have hmul:n*3≤q*3:=XJ 3 AF;have lN:∀ j u,xs[j]? =some u→W.cell? ⟨g,j,none⟩=some u:=fun j u hj=>by
  rw[← yW,XO]at hj;simp only[World.cell?,hg];split at hj
  ·simpa using hj
  ·cases hj
 obtain⟨bQ,fY⟩:∃ bQ,bQ=seg cur ((i+m)*3) (xs.drop (i*3)):=⟨_,rfl⟩
 obtain⟨cR,gb⟩:∃ cR,cR=seg bQ (i*3) vs:=⟨_,rfl⟩
 have iL:(i+m)*3+(xs.drop (i*3)).length≤cur.size:=by rw[kk,jn];omega
 have mQ:bQ.size=cur.size:=by rw[fY];exact gI iL
 have iM:i*3+vs.length≤bQ.size:=by rw[ik,mQ,jn];omega
 have sI:cR.size=cur.size:=by rw[gb,gI iM,mQ]
 have Oj:∀ ty dc sc,(Builtin.copy_ #[24,24] ty #[.slice (some ⟨g,(i+m)*3,none⟩) (n+m - (i+m)) dc,.slice (some ⟨g,i*3,none⟩) (n+m - i) sc]).run Tryz.prog W.drew=.ok (goInt (Nat.min (n+m - i) (n+m - (i+m)))) (W.drew.setRow g bQ):=fun ty dc sc=>by
  rw[fY];refine dC W.drew _ _ ty 58 3 g ((i+m)*3) (n+m - (i+m)) dc ⟨g,i*3,none⟩ (n+m - i) sc cur 58 (xs.drop (i*3)) Tryz.nt kZ hg ?_ (fun j u hj=> ?_) iL (fun u hu=>fc u (Ys hu))
  ·rw[kk];congr 1;simp only[Nat.min_def];split<;>omega
  ·rw[lJ];exact lN _ u (by rwa [List.getElem?_drop]at hj)
 have Ax:(W.drew.setRow g bQ).heap[g]? =some (.cells bQ 58 (0,0)):=setRow_heap W.drew g cur bQ 58 (0,0) hg;have PB:∀ ty dc,(Builtin.copy_ #[24,24] ty #[.slice (some ⟨g,i*3,none⟩) (n+m - i) dc,.slice (some ⟨gc,0,none⟩) m qc]).run Tryz.prog (W.drew.setRow g bQ)=.ok (goInt (Nat.min m (n+m - i))) ((W.drew.setRow g bQ).setRow g cR):=fun ty dc=>by
  rw[gb];refine dC _ _ _ ty 58 3 g (i*3) (n+m - i) dc ⟨gc,0,none⟩ m qc bQ 58 vs Tryz.nt kZ Ax ?_ (fun j u hj=> ?_) iM h9
  ·rw[ik];congr 1;simp only[Nat.min_def];split<;>omega
  ·rw[lJ,Xr];have:=hv j u hj;unfold World.cell? at this ⊢;rw[setRow_other W.drew g gc bQ dr];exact this
 have Vw:∀ lb cb,(callFunc 138 #[.slice (some ⟨gc,0,none⟩) m qc,.slice (some ⟨g,(i+m)*3,none⟩) lb cb]).run Tryz.prog W=.ok (.value (.bool false)) W:=fun lb cb=>by
  rw[run_callFunc_extern Tryz.func138 (by kernel_rfl) (by kernel_rfl) (by kernel_rfl) (e:=Extern.SlicesOverlaps.overlaps #[24,24] #[4]) (by kernel_rfl),
   Lib.run_overlaps_apart W 24 4 58 Tryz.nt 3 (fun w=>by simp[sizeOf,typeInfo,gS,kj]) ⟨gc,0,none⟩ ⟨g,(i+m)*3,none⟩ m qc lb cb dr 58 58 mJ.size cur.size (by simp[World.shape?,tv]) (by simp[World.shape?,hg]) (by omega) (iE tv 0) (iE tv _)]
  rfl
 have AL:Hid (((W.drew.setRow g bQ).setRow g cR).ownsRow lo 58 3 (.slice (some ⟨g,0,none⟩) (n+m) q) (n+m) (xs.take (i*3)++vs++xs.drop (i*3))):=by
  refine⟨?_,.inr ⟨g,q,cR,rfl,cX,setRow_heap _ g bQ cR 58 (0,0) Ax,hroom,by unfold maxLen;exact uK,by rw[sI,jn], ?_⟩⟩
  ·simp only[At,Xo,kk,ik,iO];have:i*3≤n*3:=XJ 3 (by omega);omega
  ·have:=tS (l:=cur.toList) (i:=i*3) (n:=n*3) (m:=m*3) yW iO ik (by omega) (by rw[Yk,jn];omega) cur rfl;rw[gb,fY,Yh,Yh];exact this
 have AP:Hid (jA (some ⟨g,0,none⟩) W ((W.drew.setRow g bQ).setRow g cR)):=⟨rfl,rfl,rfl,by rw[size_setRow,size_setRow];exact zE,fun b _ hb=>by
  rw[setRow_other _ g b cR (hb g rfl),setRow_other _ g b bQ (hb g rfl)];rfl⟩
 clear fY gb Ax lN hg tv hv ik h9 fc yW iO kk iL iM mQ sI jn hmul;go_enter Tryz.func115,Tryz.ntmps115
 go_wp2_with (simp only[Vw])
 go_region_law_o (refine fX rfl _ _ 24 24 rfl _ _ (by simp[Act.eval,Act.put]) (by simp[Act.eval,Act.put]) (Oj _ _ _) ?_)
 go_wp2_with (at_builtin;refine wpList_copy_runJ _ rfl _ _ 24 24 rfl _ _ rfl rfl (PB _ _) ?_)
 go_ret;exact⟨g,q,rfl,AL.out,AP.out,No rfl⟩
theorem C3 (lo:Nat) (W:World) (g n q:Nat) (xs vs:List Value) (h:W.ownsRow lo 58 3 (.slice (some ⟨g,0,none⟩) n q) n xs) (fc:∀ u∈xs,u.oneCell'=true) (gc m qc:Nat) (mJ:Array Value) (tv:W.heap[gc]? =some (.cells mJ 58 (0,0))) (hv:∀ j u,vs[j]? =some u→W.cell? ⟨gc,j,none⟩=some u) (ik:vs.length=m*3) (h9:∀ u∈vs,u.oneCell'=true) (hm:0<m) (i:Nat) (hi:i<n) (hroom:q<n+m) (hlow:lo≤W.heap.size) (hn:n+m≤1048576):
  Calls Tryz.prog 115 #[.slice (some ⟨g,0,none⟩) n q,.int .i64 (i:Nat),.slice (some ⟨gc,0,none⟩) m qc] W fun e W'=>∃ g' q',e=.returned (.slice (some ⟨g',0,none⟩) (n+m) q')∧W'.ownsRow lo 58 3 (.slice (some ⟨g',0,none⟩) (n+m) q') (n+m) (xs.take (i*3)++vs++xs.drop (i*3))∧jA (some ⟨g,0,none⟩) W W'∧(some (⟨g,0,none⟩:Addr)=some ⟨g',0,none⟩∨W.heap.size≤g'):=by
 obtain⟨iO,ke⟩:=h;rcases ke with⟨e,_⟩|⟨g',cap,cur,e,cX,hg,AF,uK,jn,yW⟩
 ·cases e
 cases e
 obtain⟨i1,gS,ei1⟩:=XH.1 Tryz.EO;simp only[Prod.mk.injEq]at ei1;obtain⟨eV,kj,y5⟩:=ei1;have kZ:(Tryz.prog.info? 58).map (·.size)=some 3:=by rw[gS];simp[kj]
 unfold maxLen at uK;have mixed:Tryz.prog.follows .mixedOrders=true:=by kernel_rfl
 have lO:¬ ((m:Int)=0):=by omega
 have kD:¬ ((i:Int)=(n:Int)):=by omega
 have UT:(q:Int)<(n:Int)+(m:Int):=by omega
 have iK:(0:Int)≤(i:Int):=by omega
 have iN:(i:Int)≤(n:Int):=by omega
 have cr:(0:Int)≤(i:Int)+(m:Int):=by omega
 have UA:((i:Int)+(m:Int)).toNat=i+m:=by omega
 have gB:IntKind.i64.wrap ((i:Int)+(m:Int))=(i:Int)+(m:Int):=gJ _ (by omega) (by omega);have fw:IntKind.i64.wrap ((n:Int)+(m:Int))=(n:Int)+(m:Int):=gJ _ (by omega) (by omega);have kf:IntKind.i64.wrap ((n:Int)+(m:Int) - (i:Int))=(n:Int)+(m:Int) - (i:Int):=gJ _ (by omega) (by omega);have qp:(n:Int)+(m:Int) - (i:Int)=((n+m - i:Nat):Int):=by omega
 have O1:i+(n+m - i)=n+m:=by omega
 have hiq:(i:Int)≤(q:Int):=by omega
 have kk:(xs.drop (i*3)).length=(n - i)*3:=by rw[Xy,iO,Nat.sub_mul]
 have U7:i*3≤n*3:=XJ 3 (by omega);have mN:(xs.take (i*3)).length=i*3:=by rw[Xo,iO];omega
 have lN:∀ j u,xs[j]? =some u→W.cell? ⟨g,j,none⟩=some u:=fun j u hj=>by
  rw[← yW,XO]at hj;simp only[World.cell?,hg];split at hj
  ·simpa using hj
  ·cases hj
 have gh:g<W.heap.size:=eP hg;have Oe:gc<W.heap.size:=eP tv;have hold:(Builtin.firstCells i1.size i (.slice (some ⟨g,0,none⟩) i q)).run Tryz.prog W.drew=.ok (xs.take (i*3)).toArray W.drew:=by
  rw[kj];refine run_firstCells_some W.drew 3 i ⟨g,0,none⟩ i q (xs.take (i*3)) mN (fun j v hj=> ?_);rw[lJ,Xr];rw[XO]at hj;split at hj
  ·exact lN j v hj
  ·cases hj
 obtain⟨Z,hZ⟩:∃ Z:Value,Z=(.agg #[.string ByteArray.empty,.string ByteArray.empty,.slice none 0 0]):=⟨_,rfl⟩
 rw[← hZ]at eV;have Rg:Z.cells.size=3:=by rw[hZ];rfl
 clear hZ;have yU:∀ ty,(Builtin.append_ #[24,3] ty #[.slice (some ⟨g,0,none⟩) i q,.int .i64 ((n:Int)+(m:Int) - (i:Int))]).run Tryz.prog W=
   .ok (.slice (some ⟨W.heap.size,0,none⟩) (n+m) (grownCap W (n+m) q 58)) (W.drew.alloc (.cells ((xs.take (i*3)).toArray++Builtin.zeroCells Z.cells (n+m - i)++Builtin.zeroCells Z.cells (grownCap W (n+m) q 58 - (n+m))) 58)):=fun ty=>by
  have hmul:(n+m)*56≤1048576*56:=XJ 56 hn;have Sx:(n+m - i)*56≤1048576*56:=XJ 56 (by omega);have h:=Lib.run_append_grow_zeros W 24 3 ty 58 i1 Z .i64 .i64 Tryz.nt (by kernel_rfl) gS eV (some ⟨g,0,none⟩) i q (xs.take (i*3)) hold (n+m - i) (by omega) (by omega) (by omega) (by omega) (by rw[y5];omega) (by rw[y5,O1];exact growslice_fits hroom (by omega));rw[O1]at h;rw[qp];exact h
 have LZ:=grownCap_ge W (n+m) q 58;have vY:=grownCap_le_maxLen W (n+m) q 58 (by unfold maxLen;omega);obtain⟨G,hG⟩:∃ G,G=grownCap W (n+m) q 58:=⟨_,rfl⟩
 rw[← hG]at yU LZ vY;clear hG;have IJ:=vY;unfold maxLen at IJ;obtain⟨ROW,vX⟩:∃ ROW:Array Value,ROW=(xs.take (i*3)).toArray++Builtin.zeroCells Z.cells (n+m - i)++Builtin.zeroCells Z.cells (G - (n+m)):=⟨_,rfl⟩
 rw[← vX]at yU;have Ly:ROW.size=G*3:=by
  rw[vX,Yv,Yv,size_zeroCells,size_zeroCells,Rg,Yx,mN];rw[← Yh,← Yh];congr 1;omega
 have RC:ROW.toList=xs.take (i*3)++((Builtin.zeroCells Z.cells (n+m - i)).toList++(Builtin.zeroCells Z.cells (G - (n+m))).toList):=by
  rw[vX];simp
 clear vX;obtain⟨bQ,fY⟩:∃ bQ,bQ=seg ROW (i*3) vs:=⟨_,rfl⟩
 obtain⟨cR,gb⟩:∃ cR,cR=seg bQ ((i+m)*3) (xs.drop (i*3)):=⟨_,rfl⟩
 have hG7:(n+m)*3≤G*3:=XJ 3 LZ;have iL:i*3+vs.length≤ROW.size:=by rw[ik,Ly];omega
 have mQ:bQ.size=ROW.size:=by rw[fY];exact gI iL
 have iM:(i+m)*3+(xs.drop (i*3)).length≤bQ.size:=by rw[kk,mQ,Ly];omega
 have sI:cR.size=ROW.size:=by rw[gb,gI iM,mQ]
 obtain⟨V,hV⟩:∃ V,V=W.drew.alloc (.cells ROW 58):=⟨_,rfl⟩
 have Py:V.heap[W.heap.size]? =some (.cells ROW 58 (0,0)):=by rw[hV];exact heap_alloc_new W.drew _
 have Ja:Bel W V:=by rw[hV];exact af (XF zR) _
 have Ou:∀ (V':World),V'.heap=V.heap→∀ ty dc,(Builtin.copy_ #[24,24] ty #[.slice (some ⟨W.heap.size,i*3,none⟩) (n+m - i) dc,.slice (some ⟨gc,0,none⟩) m qc]).run Tryz.prog V'=.ok (goInt (Nat.min m (n+m - i))) (V'.setRow W.heap.size bQ):=fun V' sC ty dc=>by
  rw[fY];refine dC V' _ _ ty 58 3 W.heap.size (i*3) (n+m - i) dc ⟨gc,0,none⟩ m qc ROW 58 vs Tryz.nt kZ (by rw[sC];exact Py) ?_ (fun j u hj=> ?_) iL h9
  ·rw[ik];congr 1;simp only[Nat.min_def];split<;>omega
  ·rw[lJ,Xr];have:=hv j u hj;unfold World.cell? at this ⊢;rw[sC,Ja.block gc Oe];exact this
 have Ax:∀ V':World,V'.heap=V.heap→(V'.setRow W.heap.size bQ).heap[W.heap.size]? =some (.cells bQ 58 (0,0)):=fun V' sC=>setRow_heap V' W.heap.size ROW bQ 58 (0,0) (by rw[sC];exact Py);have Pb:∀ (V' V'':World),V'.heap=V.heap→V''.heap=(V'.setRow W.heap.size bQ).heap→∀ ty dc sc,(Builtin.copy_ #[24,24] ty #[.slice (some ⟨W.heap.size,(i+m)*3,none⟩) (n+m - (i+m)) dc,.slice (some ⟨g,i*3,none⟩) (n - i) sc]).run Tryz.prog V''=.ok (goInt (Nat.min (n - i) (n+m - (i+m)))) (V''.setRow W.heap.size cR):=fun V' V'' sC oY ty dc sc=>by
  rw[gb];refine dC V'' _ _ ty 58 3 W.heap.size ((i+m)*3) (n+m - (i+m)) dc ⟨g,i*3,none⟩ (n - i) sc bQ 58 (xs.drop (i*3)) Tryz.nt kZ (by rw[oY];exact Ax V' sC) ?_ (fun j u hj=> ?_) iM (fun u hu=>fc u (Ys hu))
  ·rw[kk];congr 1;simp only[Nat.min_def];split<;>omega
  ·rw[lJ];have:=lN (i*3+j) u (by rwa [List.getElem?_drop]at hj);unfold World.cell? at this ⊢;rw[oY,setRow_other V' W.heap.size g bQ (by omega),sC,Ja.block g gh];exact this
 have AL:Hid (∀ (V' V'':World),V'.heap=V.heap→V''.heap=(V'.setRow W.heap.size bQ).heap→V'.os=W.os→V'.tape=W.tape→V'.output=W.output→V''.os=V'.os→V''.tape=V'.tape→V''.output=V'.output→(V''.setRow W.heap.size cR).ownsRow lo 58 3 (.slice (some ⟨W.heap.size,0,none⟩) (n+m) G) (n+m) (xs.take (i*3)++vs++xs.drop (i*3))∧jA (some ⟨g,0,none⟩) W (V''.setRow W.heap.size cR)):=by
  intro V' V'' sC oY o1 o2 o3 r1 r2 r3;refine⟨⟨?_,.inr ⟨W.heap.size,G,cR,rfl,hlow,setRow_heap _ _ bQ cR 58 (0,0) (by rw[oY];exact Ax V' sC),LZ,vY,by rw[sI,Ly], ?_⟩⟩,⟨r1.trans o1,r2.trans o2,r3.trans o3, ?_,fun b hb _=> ?_⟩⟩
  ·simp only[At,mN,kk,ik];omega
  ·have:=xE (cs:=xs) (i:=i*3) (n:=n*3) (m:=m*3) iO ik (by omega) ROW RC;rw[gb,fY,Yh,Yh];exact this
  ·rw[size_setRow,oY,size_setRow,sC];exact Ja.size
  ·rw[setRow_other _ _ b cR (by omega),oY,setRow_other _ _ b bQ (by omega),sC,Ja.block b hb]
 have hGi:¬ (G=i):=by omega
 have UP:¬ (G=i+m):=by omega
 have OK:¬ (q=i):=by omega
 have ku:(i:Int)≤(n:Int)+(m:Int):=by omega
 have hE:((W.alloc (.cells ROW 58)).drew).heap=V.heap:=by rw[hV];rfl
 have hF:(((W.alloc (.cells ROW 58)).drew.setRow W.heap.size bQ).drew).heap=((W.alloc (.cells ROW 58)).drew.setRow W.heap.size bQ).heap:=rfl;subst hV;clear fY gb Ax lN hg tv hv ik h9 fc yW iO kk iL iM mQ sI jn RC Ly hold qp O1 mN Py Ja eV Rg vY;go_enter Tryz.func115,Tryz.ntmps115
 go_wp2_with (first
  |(at_builtin;refine Lib.wpList_append_run _ rfl _ _ _ _ rfl _ _ rfl rfl _ _ (yU _) ?_)
  |(at_builtin;refine wpList_copy_runJ _ rfl _ _ 24 24 rfl _ _ rfl rfl (Ou _ hE _ _) ?_))
 go_region_law_o (refine fX rfl _ _ 24 24 rfl (.slice (some ⟨W.heap.size,(i+m)*3,none⟩) (n+m - (i+m)) (G - (i+m))) (.slice (some ⟨g,i*3,none⟩) (n - i) (q - i)) (by simp[Act.eval,Act.put]) (by simp[Act.eval,Act.put]) (Pb _ _ hE hF 3 (G - (i+m)) (q - i)) ?_)
 go_wp2;go_ret;obtain⟨r1,r2⟩:=AL.out _ _ hE hF rfl rfl rfl rfl rfl rfl;exact⟨W.heap.size,G,rfl,r1,r2,Xk zE⟩
theorem Ny (lo:Nat) (W:World) (p1:Option Addr) (n q:Nat) (xs vs:List Value) (m:Nat) (h:W.ownsRow lo 58 3 (.slice p1 n q) n xs) (lc:Nat) (vc:Value) (fc:∀ u∈xs,u.oneCell'=true) (h9:∀ u∈vs,u.oneCell'=true) (hc:W.ownsRow lc 58 3 vc m vs) (Em:0<m) (dr:∀ g,p1=some ⟨g,0,none⟩→g<lc) (i:Nat) (hi:i≤n) (hn:n+m≤1048576) (cX:lo≤W.heap.size):
  Calls Tryz.prog 115 #[.slice p1 n q,.int .i64 (i:Nat),vc] W fun e W'=>∃ g' q',e=.returned (.slice (some ⟨g',0,none⟩) (n+m) q')∧W'.ownsRow lo 58 3 (.slice (some ⟨g',0,none⟩) (n+m) q') (n+m) (xs.take (i*3)++vs++xs.drop (i*3))∧jA p1 W W'∧(p1=some ⟨g',0,none⟩∨W.heap.size≤g'):=by
 have ik:=hc.1;rcases hc.2 with⟨_,e⟩|⟨gc,qc,mJ,rfl,hlc,tv,_⟩
 ·omega
 have hv:∀ j u,vs[j]? =some u→W.cell? ⟨gc,j,none⟩=some u:=by
  obtain⟨g2,cR,e2,_,_,_,lN⟩:=xw hc Em;injection e2 with e2
  injection e2 with e2 _ _
  subst e2;exact lN
 by_cases iN:i=n
 ·subst iN;refine(Fz lo W p1 i q _ _ h gc m qc hv (ik) h9 Em hn cX).mono ?_;rintro e W' ⟨g',q',rfl,h1,h2,h3⟩;refine⟨g',q',rfl, ?_,h2,h3⟩;have hx:=h.1;rw[Xp (by omega),Xz (by omega),Xl];exact h1
 ·rcases h.2 with⟨_,e⟩|⟨g,cap,cur,e,_⟩
  ·omega
  cases e
  by_cases hroom:n+m≤q
  ·exact C1 lo W g n q _ _ h fc gc m qc mJ tv hv (ik) h9 Em (by have:=dr g rfl;omega) i (by omega) hroom hn
  ·exact C3 lo W g n q _ _ h fc gc m qc mJ tv hv (ik) h9 Em i (by omega) (by omega) cX hn
theorem Tryz.FG:(Tryz.prog.info? 41).map (fun i=>(i.zero,i.size,i.bytes))=some (some (.agg #[.string ByteArray.empty,.slice none 0 0]),2,40):=by kernel_rfl
theorem Tryz.nB:Tryz.prog.underlying 35=some (.slice 41):=by kernel_rfl
theorem Hn (lo:Nat) (W:World) (p1:Option Addr) (n q:Nat) (xs vs:List Value) (h:W.ownsRow lo 41 2 (.slice p1 n q) n xs) (gc m qc:Nat) (hv:∀ j u,vs[j]? =some u→W.cell? ⟨gc,j,none⟩=some u) (ik:vs.length=m*2) (h9:∀ u∈vs,u.oneCell'=true) (hm:0<m) (hn:n+m≤1048576) (cX:lo≤W.heap.size):
  Calls Tryz.prog 118 #[.slice p1 n q,.int .i64 (n:Nat),.slice (some ⟨gc,0,none⟩) m qc] W fun e W'=>∃ g' q',e=.returned (.slice (some ⟨g',0,none⟩) (n+m) q')∧W'.ownsRow lo 41 2 (.slice (some ⟨g',0,none⟩) (n+m) q') (n+m) (xs++vs)∧jA p1 W W'∧(p1=some ⟨g',0,none⟩∨W.heap.size≤g'):=by
 have HH:=hid h;have HV:=hid hv;have B8:=hid ik;have AA:=hid h9;have mP:=hid cX;have RW:n≤q∧q≤maxLen:=by
  rcases h.2 with⟨e,e'⟩|⟨g,cap,cur,e,_,_,hc,uK,_⟩
  ·cases e;exact⟨zE,zN⟩
  ·cases e;exact⟨hc,uK⟩
 unfold maxLen at RW;obtain⟨P1,LH⟩:=RW;clear h hv ik h9 cX;obtain⟨i1,gS,ei1⟩:=XH.1 Tryz.FG;simp only[Prod.mk.injEq]at ei1;obtain⟨eV,kj,y5⟩:=ei1;have lO:¬ ((m:Int)=0):=by omega
 have MF:(0:Int)≤(n:Int):=by omega
 have hnq:(n:Int)≤(q:Int):=by omega
 cases p1 with
 |none=>
  obtain⟨rfl,rfl⟩:n=0∧q=0:=by
   rcases HH.out.2 with⟨e,e'⟩|⟨g,cap,cur,e,_⟩
   ·cases e;exact⟨e',rfl⟩
   ·cases e
  simp only[Xr];go_enter Tryz.func118,Tryz.ntmps118
  go_wp2_with (at_builtin;refine wpList_append_lies _ rfl _ _ 35 rfl lo 41 i1 _ 2 40 Tryz.nB gS eV kj y5 rfl (by decide) _ _ xs rfl HH.out ⟨gc,0,none⟩ m qc vs rfl ?a1x ?a2x ?a3x hm ?a4x ?a5x ?a6x _ rfl ?_)
  case a1x=>exact B8.out
  case a2x=>
   intro j u hj;rw[lJ,Xr];exact HV.out j u hj
  case a3x=>exact AA.out
  case a4x=>unfold maxLen;omega
  case a5x=>omega
  case a6x=>exact mP.out
  intro g' e1 w1 yQ iu il _;have Ic:Hid ((none:Option Addr)=some ⟨g',0,none⟩∨W.heap.size≤g'):=by
   rcases il with q|q
   ·first|exact No (by rw[← Option.some.inj q])|cases q
   ·exact Xk (by omega)
  have HO:=hid yQ;have HG:Hid (jA none W w1):=⟨iu.os,iu.tape,iu.output,iu.size,fun b hb dr=>iu.block b hb (fun e=>by cases e)⟩
  clear yQ iu il;go_wp2;go_ret;exact⟨g',e1,rfl,HO.out,HG.out,Ic.out⟩
 |some ad=>
  obtain⟨g0,rfl⟩:∃ g0,ad=⟨g0,0,none⟩:=by
   rcases HH.out.2 with⟨e,e'⟩|⟨g,cap,cur,e,_⟩
   ·cases e
   ·cases e;exact⟨g,rfl⟩
  by_cases I2:q=n
  ·subst I2;go_enter Tryz.func118,Tryz.ntmps118
   go_wp2_with (at_builtin;refine wpList_append_lies _ rfl _ _ 35 rfl lo 41 i1 _ 2 40 Tryz.nB gS eV kj y5 rfl (by decide) _ _ xs rfl HH.out ⟨gc,0,none⟩ m qc vs rfl ?a1y ?a2y ?a3y hm ?a4y ?a5y ?a6y _ rfl ?_)
   case a1y=>exact B8.out
   case a2y=>
    intro j u hj;rw[lJ,Xr];exact HV.out j u hj
   case a3y=>exact AA.out
   case a4y=>unfold maxLen;omega
   case a5y=>omega
   case a6y=>exact mP.out
   intro g' e1 w1 yQ iu il _;have Ic:Hid ((some ⟨g0,0,none⟩:Option Addr)=some ⟨g',0,none⟩∨W.heap.size≤g'):=by
    rcases il with q|q
    ·first|exact No (by rw[← Option.some.inj q])|cases q
    ·exact Xk (by omega)
   have HO:=hid yQ;have HG:Hid (jA (some ⟨g0,0,none⟩) W w1):=⟨iu.os,iu.tape,iu.output,iu.size,fun b hb dr=>iu.block b hb (fun e=>dr g0 rfl (by injection e))⟩
   clear yQ iu il;go_wp2;go_ret;exact⟨g',e1,rfl,HO.out,HG.out,Ic.out⟩
  ·have V9:¬ (n=q):=fun e=>I2 e.symm;go_enter Tryz.func118,Tryz.ntmps118
   go_wp2_with (at_builtin;refine wpList_append_lies _ rfl _ _ 35 rfl lo 41 i1 _ 2 40 Tryz.nB gS eV kj y5 rfl (by decide) _ _ xs rfl HH.out ⟨gc,0,none⟩ m qc vs rfl ?a1z ?a2z ?a3z hm ?a4z ?a5z ?a6z _ rfl ?_)
   case a1z=>exact B8.out
   case a2z=>
    intro j u hj;rw[lJ,Xr];exact HV.out j u hj
   case a3z=>exact AA.out
   case a4z=>unfold maxLen;omega
   case a5z=>omega
   case a6z=>exact mP.out
   intro g' e1 w1 yQ iu il _;have Ic:Hid ((some ⟨g0,0,none⟩:Option Addr)=some ⟨g',0,none⟩∨W.heap.size≤g'):=by
    rcases il with q|q
    ·first|exact No (by rw[← Option.some.inj q])|cases q
    ·exact Xk (by omega)
   have HO:=hid yQ;have HG:Hid (jA (some ⟨g0,0,none⟩) W w1):=⟨iu.os,iu.tape,iu.output,iu.size,fun b hb dr=>iu.block b hb (fun e=>dr g0 rfl (by injection e))⟩
   clear yQ iu il;go_wp2;go_ret;exact⟨g',e1,rfl,HO.out,HG.out,Ic.out⟩
theorem DG (lo:Nat) (W:World) (g n q:Nat) (xs vs:List Value) (h:W.ownsRow lo 41 2 (.slice (some ⟨g,0,none⟩) n q) n xs) (fc:∀ u∈xs,u.oneCell'=true) (gc m qc:Nat) (mJ:Array Value) (tv:W.heap[gc]? =some (.cells mJ 41 (0,0))) (hv:∀ j u,vs[j]? =some u→W.cell? ⟨gc,j,none⟩=some u) (ik:vs.length=m*2) (h9:∀ u∈vs,u.oneCell'=true) (hm:0<m) (dr:gc≠g) (i:Nat) (hi:i<n) (hroom:n+m≤q) (hn:n+m≤1048576):
  Calls Tryz.prog 118 #[.slice (some ⟨g,0,none⟩) n q,.int .i64 (i:Nat),.slice (some ⟨gc,0,none⟩) m qc] W fun e W'=>∃ g' q',e=.returned (.slice (some ⟨g',0,none⟩) (n+m) q')∧W'.ownsRow lo 41 2 (.slice (some ⟨g',0,none⟩) (n+m) q') (n+m) (xs.take (i*2)++vs++xs.drop (i*2))∧jA (some ⟨g,0,none⟩) W W'∧(some (⟨g,0,none⟩:Addr)=some ⟨g',0,none⟩∨W.heap.size≤g'):=by
 obtain⟨iO,ke⟩:=h;rcases ke with⟨e,_⟩|⟨g',cap,cur,e,cX,hg,AF,uK,jn,yW⟩
 ·cases e
 cases e
 obtain⟨i1,gS,ei1⟩:=XH.1 Tryz.FG;simp only[Prod.mk.injEq]at ei1;obtain⟨eV,kj,y5⟩:=ei1;have kZ:(Tryz.prog.info? 41).map (·.size)=some 2:=by rw[gS];simp[kj]
 unfold maxLen at uK;have lO:¬ ((m:Int)=0):=by omega
 have kD:¬ ((i:Int)=(n:Int)):=by omega
 have UT:¬ ((q:Int)<(n:Int)+(m:Int)):=by omega
 have iK:(0:Int)≤(i:Int):=by omega
 have iN:(i:Int)≤(n:Int):=by omega
 have cr:(0:Int)≤(i:Int)+(m:Int):=by omega
 have UA:((i:Int)+(m:Int)).toNat=i+m:=by omega
 have WN:((n:Int)+(m:Int)).toNat=n+m:=by omega
 have dD:¬ (q=i+m):=by omega
 have ku:(i:Int)≤(n:Int)+(m:Int):=by omega
 have Tw:¬ (q=i):=by omega
 have oZ:(i:Int)+(m:Int)≤(n:Int)+(m:Int):=by omega
 have lM:(0:Int)≤(n:Int)+(m:Int):=by omega
 have oW:(n:Int)+(m:Int)≤(q:Int):=by omega
 have mixed:Tryz.prog.follows .mixedOrders=true:=by kernel_rfl
 have gB:IntKind.i64.wrap ((i:Int)+(m:Int))=(i:Int)+(m:Int):=gJ _ (by omega) (by omega);have fw:IntKind.i64.wrap ((n:Int)+(m:Int))=(n:Int)+(m:Int):=gJ _ (by omega) (by omega);have kk:(xs.drop (i*2)).length=(n - i)*2:=by rw[Xy,iO,Nat.sub_mul]
 have hmul:n*2≤q*2:=XJ 2 AF;have lN:∀ j u,xs[j]? =some u→W.cell? ⟨g,j,none⟩=some u:=fun j u hj=>by
  rw[← yW,XO]at hj;simp only[World.cell?,hg];split at hj
  ·simpa using hj
  ·cases hj
 obtain⟨bQ,fY⟩:∃ bQ,bQ=seg cur ((i+m)*2) (xs.drop (i*2)):=⟨_,rfl⟩
 obtain⟨cR,gb⟩:∃ cR,cR=seg bQ (i*2) vs:=⟨_,rfl⟩
 have iL:(i+m)*2+(xs.drop (i*2)).length≤cur.size:=by rw[kk,jn];omega
 have mQ:bQ.size=cur.size:=by rw[fY];exact gI iL
 have iM:i*2+vs.length≤bQ.size:=by rw[ik,mQ,jn];omega
 have sI:cR.size=cur.size:=by rw[gb,gI iM,mQ]
 have Oj:∀ ty dc sc,(Builtin.copy_ #[35,35] ty #[.slice (some ⟨g,(i+m)*2,none⟩) (n+m - (i+m)) dc,.slice (some ⟨g,i*2,none⟩) (n+m - i) sc]).run Tryz.prog W.drew=.ok (goInt (Nat.min (n+m - i) (n+m - (i+m)))) (W.drew.setRow g bQ):=fun ty dc sc=>by
  rw[fY];refine dC W.drew _ _ ty 41 2 g ((i+m)*2) (n+m - (i+m)) dc ⟨g,i*2,none⟩ (n+m - i) sc cur 41 (xs.drop (i*2)) Tryz.nB kZ hg ?_ (fun j u hj=> ?_) iL (fun u hu=>fc u (Ys hu))
  ·rw[kk];congr 1;simp only[Nat.min_def];split<;>omega
  ·rw[lJ];exact lN _ u (by rwa [List.getElem?_drop]at hj)
 have Ax:(W.drew.setRow g bQ).heap[g]? =some (.cells bQ 41 (0,0)):=setRow_heap W.drew g cur bQ 41 (0,0) hg;have PB:∀ ty dc,(Builtin.copy_ #[35,35] ty #[.slice (some ⟨g,i*2,none⟩) (n+m - i) dc,.slice (some ⟨gc,0,none⟩) m qc]).run Tryz.prog (W.drew.setRow g bQ)=.ok (goInt (Nat.min m (n+m - i))) ((W.drew.setRow g bQ).setRow g cR):=fun ty dc=>by
  rw[gb];refine dC _ _ _ ty 41 2 g (i*2) (n+m - i) dc ⟨gc,0,none⟩ m qc bQ 41 vs Tryz.nB kZ Ax ?_ (fun j u hj=> ?_) iM h9
  ·rw[ik];congr 1;simp only[Nat.min_def];split<;>omega
  ·rw[lJ,Xr];have:=hv j u hj;unfold World.cell? at this ⊢;rw[setRow_other W.drew g gc bQ dr];exact this
 have Vw:∀ lb cb,(callFunc 140 #[.slice (some ⟨gc,0,none⟩) m qc,.slice (some ⟨g,(i+m)*2,none⟩) lb cb]).run Tryz.prog W=.ok (.value (.bool false)) W:=fun lb cb=>by
  rw[run_callFunc_extern Tryz.func140 (by kernel_rfl) (by kernel_rfl) (by kernel_rfl) (e:=Extern.SlicesOverlaps.overlaps #[35,35] #[4]) (by kernel_rfl),
   Lib.run_overlaps_apart W 35 4 41 Tryz.nB 2 (fun w=>by simp[sizeOf,typeInfo,gS,kj]) ⟨gc,0,none⟩ ⟨g,(i+m)*2,none⟩ m qc lb cb dr 41 41 mJ.size cur.size (by simp[World.shape?,tv]) (by simp[World.shape?,hg]) (by omega) (iE tv 0) (iE tv _)]
  rfl
 have AL:Hid (((W.drew.setRow g bQ).setRow g cR).ownsRow lo 41 2 (.slice (some ⟨g,0,none⟩) (n+m) q) (n+m) (xs.take (i*2)++vs++xs.drop (i*2))):=by
  refine⟨?_,.inr ⟨g,q,cR,rfl,cX,setRow_heap _ g bQ cR 41 (0,0) Ax,hroom,by unfold maxLen;exact uK,by rw[sI,jn], ?_⟩⟩
  ·simp only[At,Xo,kk,ik,iO];have:i*2≤n*2:=XJ 2 (by omega);omega
  ·have:=tS (l:=cur.toList) (i:=i*2) (n:=n*2) (m:=m*2) yW iO ik (by omega) (by rw[Yk,jn];omega) cur rfl;rw[gb,fY,Yh,Yh];exact this
 have AP:Hid (jA (some ⟨g,0,none⟩) W ((W.drew.setRow g bQ).setRow g cR)):=⟨rfl,rfl,rfl,by rw[size_setRow,size_setRow];exact zE,fun b _ hb=>by
  rw[setRow_other _ g b cR (hb g rfl),setRow_other _ g b bQ (hb g rfl)];rfl⟩
 clear fY gb Ax lN hg tv hv ik h9 fc yW iO kk iL iM mQ sI jn hmul;go_enter Tryz.func118,Tryz.ntmps118
 go_wp2_with (simp only[Vw])
 go_region_law_o (refine fX rfl _ _ 35 35 rfl _ _ (by simp[Act.eval,Act.put]) (by simp[Act.eval,Act.put]) (Oj _ _ _) ?_)
 go_wp2_with (at_builtin;refine wpList_copy_runJ _ rfl _ _ 35 35 rfl _ _ rfl rfl (PB _ _) ?_)
 go_ret;exact⟨g,q,rfl,AL.out,AP.out,No rfl⟩
theorem CN (lo:Nat) (W:World) (g n q:Nat) (xs vs:List Value) (h:W.ownsRow lo 41 2 (.slice (some ⟨g,0,none⟩) n q) n xs) (fc:∀ u∈xs,u.oneCell'=true) (gc m qc:Nat) (mJ:Array Value) (tv:W.heap[gc]? =some (.cells mJ 41 (0,0))) (hv:∀ j u,vs[j]? =some u→W.cell? ⟨gc,j,none⟩=some u) (ik:vs.length=m*2) (h9:∀ u∈vs,u.oneCell'=true) (hm:0<m) (i:Nat) (hi:i<n) (hroom:q<n+m) (hlow:lo≤W.heap.size) (hn:n+m≤1048576):
  Calls Tryz.prog 118 #[.slice (some ⟨g,0,none⟩) n q,.int .i64 (i:Nat),.slice (some ⟨gc,0,none⟩) m qc] W fun e W'=>∃ g' q',e=.returned (.slice (some ⟨g',0,none⟩) (n+m) q')∧W'.ownsRow lo 41 2 (.slice (some ⟨g',0,none⟩) (n+m) q') (n+m) (xs.take (i*2)++vs++xs.drop (i*2))∧jA (some ⟨g,0,none⟩) W W'∧(some (⟨g,0,none⟩:Addr)=some ⟨g',0,none⟩∨W.heap.size≤g'):=by
 obtain⟨iO,ke⟩:=h;rcases ke with⟨e,_⟩|⟨g',cap,cur,e,cX,hg,AF,uK,jn,yW⟩
 ·cases e
 cases e
 obtain⟨i1,gS,ei1⟩:=XH.1 Tryz.FG;simp only[Prod.mk.injEq]at ei1;obtain⟨eV,kj,y5⟩:=ei1;have kZ:(Tryz.prog.info? 41).map (·.size)=some 2:=by rw[gS];simp[kj]
 unfold maxLen at uK;have mixed:Tryz.prog.follows .mixedOrders=true:=by kernel_rfl
 have lO:¬ ((m:Int)=0):=by omega
 have kD:¬ ((i:Int)=(n:Int)):=by omega
 have UT:(q:Int)<(n:Int)+(m:Int):=by omega
 have iK:(0:Int)≤(i:Int):=by omega
 have iN:(i:Int)≤(n:Int):=by omega
 have cr:(0:Int)≤(i:Int)+(m:Int):=by omega
 have UA:((i:Int)+(m:Int)).toNat=i+m:=by omega
 have gB:IntKind.i64.wrap ((i:Int)+(m:Int))=(i:Int)+(m:Int):=gJ _ (by omega) (by omega);have fw:IntKind.i64.wrap ((n:Int)+(m:Int))=(n:Int)+(m:Int):=gJ _ (by omega) (by omega);have kf:IntKind.i64.wrap ((n:Int)+(m:Int) - (i:Int))=(n:Int)+(m:Int) - (i:Int):=gJ _ (by omega) (by omega);have qp:(n:Int)+(m:Int) - (i:Int)=((n+m - i:Nat):Int):=by omega
 have O1:i+(n+m - i)=n+m:=by omega
 have hiq:(i:Int)≤(q:Int):=by omega
 have kk:(xs.drop (i*2)).length=(n - i)*2:=by rw[Xy,iO,Nat.sub_mul]
 have U7:i*2≤n*2:=XJ 2 (by omega);have mN:(xs.take (i*2)).length=i*2:=by rw[Xo,iO];omega
 have lN:∀ j u,xs[j]? =some u→W.cell? ⟨g,j,none⟩=some u:=fun j u hj=>by
  rw[← yW,XO]at hj;simp only[World.cell?,hg];split at hj
  ·simpa using hj
  ·cases hj
 have gh:g<W.heap.size:=eP hg;have Oe:gc<W.heap.size:=eP tv;have hold:(Builtin.firstCells i1.size i (.slice (some ⟨g,0,none⟩) i q)).run Tryz.prog W.drew=.ok (xs.take (i*2)).toArray W.drew:=by
  rw[kj];refine run_firstCells_some W.drew 2 i ⟨g,0,none⟩ i q (xs.take (i*2)) mN (fun j v hj=> ?_);rw[lJ,Xr];rw[XO]at hj;split at hj
  ·exact lN j v hj
  ·cases hj
 obtain⟨Z,hZ⟩:∃ Z:Value,Z=(.agg #[.string ByteArray.empty,.slice none 0 0]):=⟨_,rfl⟩
 rw[← hZ]at eV;have Rg:Z.cells.size=2:=by rw[hZ];rfl
 clear hZ;have yU:∀ ty,(Builtin.append_ #[35,3] ty #[.slice (some ⟨g,0,none⟩) i q,.int .i64 ((n:Int)+(m:Int) - (i:Int))]).run Tryz.prog W=
   .ok (.slice (some ⟨W.heap.size,0,none⟩) (n+m) (grownCap W (n+m) q 41)) (W.drew.alloc (.cells ((xs.take (i*2)).toArray++Builtin.zeroCells Z.cells (n+m - i)++Builtin.zeroCells Z.cells (grownCap W (n+m) q 41 - (n+m))) 41)):=fun ty=>by
  have hmul:(n+m)*40≤1048576*40:=XJ 40 hn;have Sx:(n+m - i)*40≤1048576*40:=XJ 40 (by omega);have h:=Lib.run_append_grow_zeros W 35 3 ty 41 i1 Z .i64 .i64 Tryz.nB (by kernel_rfl) gS eV (some ⟨g,0,none⟩) i q (xs.take (i*2)) hold (n+m - i) (by omega) (by omega) (by omega) (by omega) (by rw[y5];omega) (by rw[y5,O1];exact growslice_fits hroom (by omega));rw[O1]at h;rw[qp];exact h
 have LZ:=grownCap_ge W (n+m) q 41;have vY:=grownCap_le_maxLen W (n+m) q 41 (by unfold maxLen;omega);obtain⟨G,hG⟩:∃ G,G=grownCap W (n+m) q 41:=⟨_,rfl⟩
 rw[← hG]at yU LZ vY;clear hG;have IJ:=vY;unfold maxLen at IJ;obtain⟨ROW,vX⟩:∃ ROW:Array Value,ROW=(xs.take (i*2)).toArray++Builtin.zeroCells Z.cells (n+m - i)++Builtin.zeroCells Z.cells (G - (n+m)):=⟨_,rfl⟩
 rw[← vX]at yU;have Ly:ROW.size=G*2:=by
  rw[vX,Yv,Yv,size_zeroCells,size_zeroCells,Rg,Yx,mN];rw[← Yh,← Yh];congr 1;omega
 have RC:ROW.toList=xs.take (i*2)++((Builtin.zeroCells Z.cells (n+m - i)).toList++(Builtin.zeroCells Z.cells (G - (n+m))).toList):=by
  rw[vX];simp
 clear vX;obtain⟨bQ,fY⟩:∃ bQ,bQ=seg ROW (i*2) vs:=⟨_,rfl⟩
 obtain⟨cR,gb⟩:∃ cR,cR=seg bQ ((i+m)*2) (xs.drop (i*2)):=⟨_,rfl⟩
 have hG7:(n+m)*2≤G*2:=XJ 2 LZ;have iL:i*2+vs.length≤ROW.size:=by rw[ik,Ly];omega
 have mQ:bQ.size=ROW.size:=by rw[fY];exact gI iL
 have iM:(i+m)*2+(xs.drop (i*2)).length≤bQ.size:=by rw[kk,mQ,Ly];omega
 have sI:cR.size=ROW.size:=by rw[gb,gI iM,mQ]
 obtain⟨V,hV⟩:∃ V,V=W.drew.alloc (.cells ROW 41):=⟨_,rfl⟩
 have Py:V.heap[W.heap.size]? =some (.cells ROW 41 (0,0)):=by rw[hV];exact heap_alloc_new W.drew _
 have Ja:Bel W V:=by rw[hV];exact af (XF zR) _
 have Ou:∀ (V':World),V'.heap=V.heap→∀ ty dc,(Builtin.copy_ #[35,35] ty #[.slice (some ⟨W.heap.size,i*2,none⟩) (n+m - i) dc,.slice (some ⟨gc,0,none⟩) m qc]).run Tryz.prog V'=.ok (goInt (Nat.min m (n+m - i))) (V'.setRow W.heap.size bQ):=fun V' sC ty dc=>by
  rw[fY];refine dC V' _ _ ty 41 2 W.heap.size (i*2) (n+m - i) dc ⟨gc,0,none⟩ m qc ROW 41 vs Tryz.nB kZ (by rw[sC];exact Py) ?_ (fun j u hj=> ?_) iL h9
  ·rw[ik];congr 1;simp only[Nat.min_def];split<;>omega
  ·rw[lJ,Xr];have:=hv j u hj;unfold World.cell? at this ⊢;rw[sC,Ja.block gc Oe];exact this
 have Ax:∀ V':World,V'.heap=V.heap→(V'.setRow W.heap.size bQ).heap[W.heap.size]? =some (.cells bQ 41 (0,0)):=fun V' sC=>setRow_heap V' W.heap.size ROW bQ 41 (0,0) (by rw[sC];exact Py);have Pb:∀ (V' V'':World),V'.heap=V.heap→V''.heap=(V'.setRow W.heap.size bQ).heap→∀ ty dc sc,(Builtin.copy_ #[35,35] ty #[.slice (some ⟨W.heap.size,(i+m)*2,none⟩) (n+m - (i+m)) dc,.slice (some ⟨g,i*2,none⟩) (n - i) sc]).run Tryz.prog V''=.ok (goInt (Nat.min (n - i) (n+m - (i+m)))) (V''.setRow W.heap.size cR):=fun V' V'' sC oY ty dc sc=>by
  rw[gb];refine dC V'' _ _ ty 41 2 W.heap.size ((i+m)*2) (n+m - (i+m)) dc ⟨g,i*2,none⟩ (n - i) sc bQ 41 (xs.drop (i*2)) Tryz.nB kZ (by rw[oY];exact Ax V' sC) ?_ (fun j u hj=> ?_) iM (fun u hu=>fc u (Ys hu))
  ·rw[kk];congr 1;simp only[Nat.min_def];split<;>omega
  ·rw[lJ];have:=lN (i*2+j) u (by rwa [List.getElem?_drop]at hj);unfold World.cell? at this ⊢;rw[oY,setRow_other V' W.heap.size g bQ (by omega),sC,Ja.block g gh];exact this
 have AL:Hid (∀ (V' V'':World),V'.heap=V.heap→V''.heap=(V'.setRow W.heap.size bQ).heap→V'.os=W.os→V'.tape=W.tape→V'.output=W.output→V''.os=V'.os→V''.tape=V'.tape→V''.output=V'.output→(V''.setRow W.heap.size cR).ownsRow lo 41 2 (.slice (some ⟨W.heap.size,0,none⟩) (n+m) G) (n+m) (xs.take (i*2)++vs++xs.drop (i*2))∧jA (some ⟨g,0,none⟩) W (V''.setRow W.heap.size cR)):=by
  intro V' V'' sC oY o1 o2 o3 r1 r2 r3;refine⟨⟨?_,.inr ⟨W.heap.size,G,cR,rfl,hlow,setRow_heap _ _ bQ cR 41 (0,0) (by rw[oY];exact Ax V' sC),LZ,vY,by rw[sI,Ly], ?_⟩⟩,⟨r1.trans o1,r2.trans o2,r3.trans o3, ?_,fun b hb _=> ?_⟩⟩
  ·simp only[At,mN,kk,ik];omega
  ·have:=xE (cs:=xs) (i:=i*2) (n:=n*2) (m:=m*2) iO ik (by omega) ROW RC;rw[gb,fY,Yh,Yh];exact this
  ·rw[size_setRow,oY,size_setRow,sC];exact Ja.size
  ·rw[setRow_other _ _ b cR (by omega),oY,setRow_other _ _ b bQ (by omega),sC,Ja.block b hb]
 have hGi:¬ (G=i):=by omega
 have UP:¬ (G=i+m):=by omega
 have OK:¬ (q=i):=by omega
 have ku:(i:Int)≤(n:Int)+(m:Int):=by omega
 have hE:((W.alloc (.cells ROW 41)).drew).heap=V.heap:=by rw[hV];rfl
 have hF:(((W.alloc (.cells ROW 41)).drew.setRow W.heap.size bQ).drew).heap=((W.alloc (.cells ROW 41)).drew.setRow W.heap.size bQ).heap:=rfl;subst hV;clear fY gb Ax lN hg tv hv ik h9 fc yW iO kk iL iM mQ sI jn RC Ly hold qp O1 mN Py Ja eV Rg vY;go_enter Tryz.func118,Tryz.ntmps118
 go_wp2_with (first
  |(at_builtin;refine Lib.wpList_append_run _ rfl _ _ _ _ rfl _ _ rfl rfl _ _ (yU _) ?_)
  |(at_builtin;refine wpList_copy_runJ _ rfl _ _ 35 35 rfl _ _ rfl rfl (Ou _ hE _ _) ?_))
 go_region_law_o (refine fX rfl _ _ 35 35 rfl (.slice (some ⟨W.heap.size,(i+m)*2,none⟩) (n+m - (i+m)) (G - (i+m))) (.slice (some ⟨g,i*2,none⟩) (n - i) (q - i)) (by simp[Act.eval,Act.put]) (by simp[Act.eval,Act.put]) (Pb _ _ hE hF 3 (G - (i+m)) (q - i)) ?_)
 go_wp2;go_ret;obtain⟨r1,r2⟩:=AL.out _ _ hE hF rfl rfl rfl rfl rfl rfl;exact⟨W.heap.size,G,rfl,r1,r2,Xk zE⟩
theorem FT (lo:Nat) (W:World) (p1:Option Addr) (n q:Nat) (xs vs:List Value) (m:Nat) (h:W.ownsRow lo 41 2 (.slice p1 n q) n xs) (lc:Nat) (vc:Value) (fc:∀ u∈xs,u.oneCell'=true) (h9:∀ u∈vs,u.oneCell'=true) (hc:W.ownsRow lc 41 2 vc m vs) (Em:0<m) (dr:∀ g,p1=some ⟨g,0,none⟩→g<lc) (i:Nat) (hi:i≤n) (hn:n+m≤1048576) (cX:lo≤W.heap.size):
  Calls Tryz.prog 118 #[.slice p1 n q,.int .i64 (i:Nat),vc] W fun e W'=>∃ g' q',e=.returned (.slice (some ⟨g',0,none⟩) (n+m) q')∧W'.ownsRow lo 41 2 (.slice (some ⟨g',0,none⟩) (n+m) q') (n+m) (xs.take (i*2)++vs++xs.drop (i*2))∧jA p1 W W'∧(p1=some ⟨g',0,none⟩∨W.heap.size≤g'):=by
 have ik:=hc.1;rcases hc.2 with⟨_,e⟩|⟨gc,qc,mJ,rfl,hlc,tv,_⟩
 ·omega
 have hv:∀ j u,vs[j]? =some u→W.cell? ⟨gc,j,none⟩=some u:=by
  obtain⟨g2,cR,e2,_,_,_,lN⟩:=xw hc Em;injection e2 with e2
  injection e2 with e2 _ _
  subst e2;exact lN
 by_cases iN:i=n
 ·subst iN;refine(Hn lo W p1 i q _ _ h gc m qc hv (ik) h9 Em hn cX).mono ?_;rintro e W' ⟨g',q',rfl,h1,h2,h3⟩;refine⟨g',q',rfl, ?_,h2,h3⟩;have hx:=h.1;rw[Xp (by omega),Xz (by omega),Xl];exact h1
 ·rcases h.2 with⟨_,e⟩|⟨g,cap,cur,e,_⟩
  ·omega
  cases e
  by_cases hroom:n+m≤q
  ·exact DG lo W g n q _ _ h fc gc m qc mJ tv hv (ik) h9 Em (by have:=dr g rfl;omega) i (by omega) hroom hn
  ·exact CN lo W g n q _ _ h fc gc m qc mJ tv hv (ik) h9 Em i (by omega) (by omega) cX hn
theorem jA.frm {p:Option Addr} {a b:World} (h:jA p a b):Frm (fun q=>∃ g,p=some ⟨g,0,none⟩∧q=g) a b:=
 ⟨h.os,h.tape,h.output,h.size,fun q hq hn=>h.block q hq fun g hg e=>hn ⟨g,hg,e⟩⟩
namespace RY
theorem nY {P:Program} {id:Nat} {Q:Exit→Act→World→Prop} {a0:Act} {w:World} {l:List Oper} (v:World) (hv:Bel v w)
  (V:Nat→Value→World→Prop) (hVm:∀ j u W W',Bel W W'→V j u W→V j u W') (pure_:List Nat) (Vp:Nat→Value→Prop) (K8:∀ j∈pure_,∀ u W,V j u W↔Vp j u)
  (K1:Value→World→Prop) (K2:World→Prop) (n iC fuel:Nat) (hiC:iC<n)
  (hm:P.follows .mixedOrders=true) (hasc:asc .any l.toArray=true) (hap:ek l=true) (eH:eN l a0.tmps.size=true)
  (hlen:l.length=n+1) (D:List Nat) (hD:(D.all fun d=>decide (d<n)&&waits l n d)=true)
  (hclo:((List.range n).all fun i=>(clo l fuel D).contains i)=true)
  (DC:List Nat) (hDC:(DC.all fun d=>decide (d<n)&&waits l iC d)=true)
  (hcloC:((List.range n).all fun i=>pure_.contains i||i==iC||(clo l fuel DC).contains i)=true) (hpC:pure_.contains iC=false)
  (oC oS:Oper) (hC:l[iC]? =some oC) (hS:l[n]? =some oS) (hSd:oS.dst=none)
  (km:((l.take n).all fun o=>o.dst.isSome)=true)
  (ij:∀ (i:Nat) (o:Oper),l[i]? =some o→i<n→i≠iC→∀ (a:Act) (W:World),(i ∉ pure_→Bel v W)→(∀ k,ew l k=true→a.eval (.tmp k)=a0.eval (.tmp k))→
   (∀ (j:Nat) (o':Oper) (k:Nat),l[j]? =some o'→o'.dst=some k→(∃ e∈o.after,e.on=j∧Region.binds .any e=true)→j<n→j≠iC→(i∈pure_→j∈pure_)→V j (a.eval (.tmp k)) W)→
   (∃ u W',(execOp a.eval o).run P W=.ok (.value u) W'∧(i∈pure_→W'=W)∧Bel W W'∧V i u W')∨
   (i ∉ pure_∧∃ f args,(execOp a.eval o).run P W=.ok (.enter f args) W∧Calls P f args W fun e W'=>∃ u,e=.returned u∧Bel W W'∧V i u W'))
  (sq:∀ (a:Act) (W:World),Bel v W→(∀ k,ew l k=true→a.eval (.tmp k)=a0.eval (.tmp k))→
   (∀ (j:Nat) (o':Oper) (k:Nat),l[j]? =some o'→o'.dst=some k→(∃ e∈oC.after,e.on=j∧Region.binds .any e=true)→j<n→j≠iC→V j (a.eval (.tmp k)) W)→
   ∃ f args,(execOp a.eval oC).run P W=.ok (.enter f args) W∧Calls P f args W fun e W'=>∃ u,e=.returned u∧K1 u W')
  (hfin:∀ (a:Act) (W:World) (vals:Nat→Value),K1 (vals iC) W→(∀ k,ew l k=true→a.eval (.tmp k)=a0.eval (.tmp k))→(∀ j∈pure_,Vp j (vals j))→
   (∀ (j:Nat) (o':Oper) (k:Nat),l[j]? =some o'→o'.dst=some k→(∃ e∈oS.after,e.on=j∧Region.binds .any e=true)→j<n→a.eval (.tmp k)=vals j)→
   ∃ W',(execOp a.eval oS).run P W=.ok .skip W'∧K2 W')
  (hpn:∀ j∈pure_,j<n)
  (hend:∀ (vs:Nat→Value) (W:World),K2 W→Q .normal (aC l a0 vs) W):
  (Code.region id l.toArray true).wp P Q a0 w:=by
 rw[Xu]at hD hDC;refine jt (fun _ _=>True) (fun up vals W=>(up n=false→up iC=false→Bel v W∧∀ j,j<n→j≠iC→up j=true→V j (vals j) W)∧(up n=false→up iC=true→K1 (vals iC) W∧∀ j∈pure_,up j=true→Vp j (vals j))∧(up n=true→K2 W)) hm hasc hap eH ?_ ?_ ?_
 ·intro vals;exact⟨fun _ _=>⟨XF hv,fun j _ _ h=>by simp at h⟩,fun _ h=>by simp at h,fun h=>by simp at h⟩
 ·intro up vals i o ho hi fT a W hk SE hT;have uL:i<n+1:=by rw[← hlen];exact(Xn.1 ho).1
  have fk:∀ j o',l[j]? =some o'→j<n→o'.dst.isSome=true:=fun j o' hj h=>by
   rw[Xu]at km;exact km _ (Xx (i:=j) (by rw[XM h];exact hj))
  have oV:(∀ d∈D,up d=true)→∀ j,j<n→up j=true:=fun h j hj=>by
   rw[Xu]at hclo;have:=hclo j (by simp;omega);exact gV fT fuel D h j (by simpa using this)
  have Wq:(∀ d∈DC,up d=true)→∀ j,j<n→j ∉ pure_→j≠iC→up j=true:=fun h j hj hp dr=>by
   rw[Xu]at hcloC;have:=hcloC j (by simp;omega);rw[YR,YR]at this;rcases this with(q|q)|q
   ·exact absurd (by simpa using q) hp
   ·exact absurd (by simpa using q) dr
   ·exact gV fT fuel DC h j (by simpa using q)
  have upS:up n=true→∀ j,j<n→up j=true:=fun h=>oV fun d hd=>by
   have h2:=hD d hd;rw[Xj,decide_eq_true_eq]at h2;obtain⟨e,he,nT,nU⟩:=bj h2.2 hS;rw[← nT];exact fT n oS e hS he nU h
  have upC:up iC=true→∀ j,j<n→j ∉ pure_→j≠iC→up j=true:=fun h=>Wq fun d hd=>by
   have h2:=hDC d hd;rw[Xj,decide_eq_true_eq]at h2;obtain⟨e,he,nT,nU⟩:=bj h2.2 hC;rw[← nT];exact fT iC oC e hC he nU h
  by_cases jr:up n=true
  ·exfalso;by_cases e:i=n
   ·rw[e,jr]at hi;cases hi
   ·rw[upS jr i (by omega)]at hi;cases hi
  have jr:up n=false:=by simpa using jr
  by_cases iN:i=n
  ·subst iN;rw[hS]at ho;injection ho with ho
   subst ho;have bA:∀ j,j<i→up j=true:=oV fun d hd=>by
    have h2:=hD d hd;rw[Xj,decide_eq_true_eq]at h2;obtain⟨e,he,nT,nU⟩:=bj h2.2 hS;have kk:d<l.length:=by rw[hlen];omega
    obtain⟨k,iP⟩:=XR.1 (fk d l[d] (by simp) h2.1);exact(SE d l[d] k (by simp) iP ⟨e,he,nT,nU⟩).1
   obtain⟨LG,LS⟩:=hT.2.1 jr (bA iC hiC);obtain⟨W',hr,hK⟩:=hfin a W vals LG hk (fun j hj=>LS j hj (bA j (hpn j hj))) (fun j o' k hj iP hd lR=>(SE j o' k hj iP hd).2.1);exact Xk (No ⟨W',hr,hSd,fun h=>by simp at h,fun h=>by simp at h,fun _=>hK⟩)
  have AQ:i<n:=by omega
  have P7:¬ n=i:=by omega
  by_cases Ix:i=iC
  ·subst Ix;rw[hC]at ho;injection ho with ho
   subst ho;obtain⟨sS,hV⟩:=hT.1 jr hi;obtain⟨f,args,hr,hc⟩:=sq a W sS hk (fun j o' k hj iP hd lR dr=>by
    obtain⟨q1,q2,_⟩:=SE j o' k hj iP hd;rw[q2];exact hV j lR dr q1)
   refine Xk (Xk ⟨f,args,hr,fk i _ hC AQ,hc.mono ?_⟩);rintro e W' ⟨u,rfl,hK⟩;refine⟨u,rfl,trivial,fun _ h=>by simp at h,fun _ _=>⟨by simpa using hK,fun j hj hu=> ?_⟩,fun h=> ?_⟩
   ·have Rf:¬ j=i:=fun e=>by subst e;rw[YI.2 hj]at hpC;cases hpC
    have hu:up j=true:=by simpa [Rf]using hu
    simp only[Rf,if_false];exact(K8 j hj _ _).1 (hV j (hpn j hj) Rf hu)
   ·have:up n=true:=by simpa [P7]using h
    rw[jr]at this;cases this
  have OQ:¬ iC=i:=fun e=>Ix e.symm;by_cases ON:up iC=true
  ·
   have RD:i∈pure_:=by
    by_cases q:i∈pure_
    ·exact q
    ·rw[upC ON i AQ q Ix]at hi;cases hi
   obtain⟨LG,LS⟩:=hT.2.1 jr ON;rcases ij i o ho AQ Ix a W (fun h=>absurd RD h) hk (fun j o' k hj iP hd lR dr hpp=>by
     obtain⟨q1,q2,_⟩:=SE j o' k hj iP hd;rw[q2];have hjp:=hpp RD;exact(K8 j hjp _ _).2 (LS j hjp q1)) with⟨u,W',hr,hW,_,mM⟩|⟨h,_⟩
   ·have Ux:=hW RD;subst Ux;refine No ⟨u,_,hr,fk i o ho AQ,trivial,fun _ h=> ?_,fun _ _=>⟨?_,fun j hj hu=> ?_⟩,fun h=> ?_⟩
    ·have:up iC=false:=by simpa [OQ]using h
     rw[ON]at this;cases this
    ·simp only[OQ,if_false];exact LG
    ·by_cases e:j=i
     ·simp only[e,if_true];exact(K8 i RD _ _).1 mM
     ·have hu:up j=true:=by simpa [e]using hu
      simp only[e,if_false];exact LS j hj hu
    ·have:up n=true:=by simpa [P7]using h
     rw[jr]at this;cases this
   ·exact absurd RD h
  ·have ON:up iC=false:=by simpa using ON
   obtain⟨sS,hV⟩:=hT.1 jr ON;have key:∀ u W',Bel W W'→V i u W'→(((fun j=>(j==i)||up j) n=false→(fun j=>(j==i)||up j) iC=false→Bel v W'∧∀ j,j<n→j≠iC→(fun j=>(j==i)||up j) j=true→V j ((fun j=>if j=i then u else vals j) j) W')∧((fun j=>(j==i)||up j) n=false→(fun j=>(j==i)||up j) iC=true→K1 ((fun j=>if j=i then u else vals j) iC) W'∧∀ j∈pure_,(fun j=>(j==i)||up j) j=true→Vp j ((fun j=>if j=i then u else vals j) j))∧((fun j=>(j==i)||up j) n=true→K2 W')):=fun u W' hW mM=>by
    refine⟨fun _ _=>⟨ae sS hW,fun j hj dr hu=> ?_⟩,fun _ h=> ?_,fun h=> ?_⟩
    ·by_cases e:j=i
     ·simp only[e,if_true];exact mM
     ·have hu:up j=true:=by simpa [e]using hu
      simp only[e,if_false];exact hVm _ _ _ _ hW (hV j hj dr hu)
    ·have:up iC=true:=by simpa [OQ]using h
     rw[ON]at this;cases this
    ·have:up n=true:=by simpa [P7]using h
     rw[jr]at this;cases this
   rcases ij i o ho AQ Ix a W (fun _=>sS) hk (fun j o' k hj iP hd lR dr _=>by
     obtain⟨q1,q2,_⟩:=SE j o' k hj iP hd;rw[q2];exact hV j lR dr q1) with⟨u,W',hr,_,hW,mM⟩|⟨_,f,args,hr,hc⟩
   ·exact No ⟨u,W',hr,fk i o ho AQ,trivial,key u W' hW mM⟩
   ·refine Xk (Xk ⟨f,args,hr,fk i o ho AQ,hc.mono ?_⟩);rintro e W' ⟨u,rfl,hW,mM⟩;exact⟨u,rfl,trivial,key u W' hW mM⟩
 ·intro up vals vs W bA iH hT;exact hend vs W (hT.2.2 (bA n (by omega)))
end RY
theorem EH (X:World) (lo:Nat) (a b:ByteArray) (v:Value) (h:lo≤X.heap.size):(X.alloc (.cells #[.string a,.string b,v] 58)).ownsRow lo 58 3 (.slice (some ⟨X.heap.size,0,none⟩) 1 1) 1 [.string a,.string b,v]:=
 ⟨rfl,.inr ⟨X.heap.size,1,_,rfl,h,heap_alloc_new X _,zE,by decide,rfl,rfl⟩⟩
def bgC (A:List Pl.Bl) (ws:List ByteArray) (ag:Bool):Nat:=
 if ws.length≠2 then 2 else if (Pl.ah (ws.getD 0 Pl.aJ)).length=0 then 3 else if Pl.bE (ws.getD 1 Pl.aJ)=false then 4 else if ag then 9 else if A.length=60 then 10 else 0
def MZ (rb:Nat) (n:Nat) (q:Nat) (pl:Nat) (p1:Option Addr) (k0:ByteArray) (k1:ByteArray) (ag:Bool):Nat→Value→World→Prop
 |0,vv,_|1,vv,_=>vv=.pointer (some ⟨rb,0,none⟩)
 |2,vv,_=>vv=.pointer (some ⟨rb,5,none⟩)
 |3,vv,_=>vv=.slice p1 n q
 |4,vv,_=>vv=.agg #[.string k0,.string k1,.slice none 0 0]
 |5,vv,_|6,vv,_=>vv=.tuple #[.int .i64 (pl:Int),.bool ag]
 |7,vv,_|9,vv,_=>vv=.int .i64 (pl:Int)
 |8,vv,_|10,vv,_=>vv=.bool ag
 |_,_,_=>True
theorem CK (rb:Nat) (n:Nat) (q:Nat) (pl:Nat) (p1:Option Addr) (k0:ByteArray) (k1:ByteArray) (ag:Bool):∀ jj vv W W',Bel W W'→MZ rb n q pl p1 k0 k1 ag jj vv W→MZ rb n q pl p1 k0 k1 ag jj vv W':=by
 intro jj vv W W' hb h;match jj with
 |0|1|2|3|4|5|6|7|8|9|10=>exact h
 |n+11=>exact trivial
def Ki (rb:Nat) (n:Nat) (q:Nat) (pl:Nat) (nw:Nat) (p1:Option Addr) (k0:ByteArray) (k1:ByteArray):Nat→Value→World→Prop
 |0,vv,_|1,vv,_|2,vv,_|9,vv,_=>vv=.pointer (some ⟨rb,0,none⟩)
 |3,vv,_|10,vv,_=>vv=.pointer (some ⟨rb,5,none⟩)
 |4,vv,_=>vv=.slice p1 n q
 |5,vv,_=>vv=.int .i64 (pl:Int)
 |6,vv,_=>vv=.agg #[.string k0,.string k1,.slice none 0 0]
 |7,vv,W=>∃ g,vv=.slice (some ⟨g,0,none⟩) 1 1∧W.ownsRow nw 58 3 (.slice (some ⟨g,0,none⟩) 1 1) 1 [.string k0,.string k1,.slice none 0 0]
 |8,vv,_=>vv=undef
 |_,_,_=>True
theorem Dz (rb:Nat) (n:Nat) (q:Nat) (pl:Nat) (nw:Nat) (p1:Option Addr) (k0:ByteArray) (k1:ByteArray):∀ jj vv W W',Bel W W'→Ki rb n q pl nw p1 k0 k1 jj vv W→Ki rb n q pl nw p1 k0 k1 jj vv W':=by
 intro jj vv W W' hb h;match jj with
 |0|1|2|3|4|5|6|8|9|10=>exact h
 |7=>
  obtain⟨g,h1,h2⟩:=h;exact⟨g,h1,bT h2 (Frm.bB (S:=fun _=>False) hb) (fun _ _ h=>h)⟩
 |n+11=>exact trivial
theorem NU (rb mb:Nat) (lv:Value) (at_ op:Int) (wa:Option Addr) (wc:Nat) (ws:List ByteArray) (A:List Pl.Bl) (p1:Option Addr) (q:Nat) (cs:List Value) (F:List Nat) (vt vb vs:Value) (w:World)
  (fB:aA w rb 124 [.map (some mb),lv,.int .i64 at_,.slice wa ws.length wc,.bool false,.slice p1 A.length q,.int .i64 op]) (hw:Raw w bm [.row ws.length (txD ws)] [.slice wa ws.length wc]) (AW:∀ x∈ws,x.size≤maxLen)
  (dN:w.ownsRow (rb+1) 58 3 (.slice p1 A.length q) A.length cs) (gC:Rep w false (bF A.length aq) F (A.flatMap blD) cs) (Li:A.length≤60)
  (hm:w.heap[mb]? =some (.map #[⟨.string {data:=#[116,101,97,109]},.agg #[vt],0⟩,⟨.string {data:=#[98,101,114,116,104]},.agg #[vb],1⟩,⟨.string {data:=#[115,101,114,118,105,99,101]},.agg #[vs],2⟩] 3)) (LB:∀ kind,∃ ra rn rc,iT kind vt vb vs=.slice ra rn rc)
  (pl:Nat) (eH:pl≤A.length) (h1:∀ i,i<pl→eE (A.getD i Pl.aG) ⟨ws.getD 0 Pl.aJ,ws.getD 1 Pl.aJ,[]⟩<0) (h2:∀ i,pl≤i→i<A.length→0≤eE (A.getD i Pl.aG) ⟨ws.getD 0 Pl.aJ,ws.getD 1 Pl.aJ,[]⟩) (ag:Bool) (qu:ag=(decide (pl<A.length)&&decide (eE (A.getD pl Pl.aG) ⟨ws.getD 0 Pl.aJ,ws.getD 1 Pl.aJ,[]⟩=0))):
  Calls Tryz.prog 85 #[.pointer (some ⟨rb,0,none⟩)] w fun e w'=>
   (bgC A ws ag≠0∧e=.returned (.iface 100 (.agg #[.int .i64 at_,.int .i64 (bgC A ws ag:Nat)]))∧Bel w w')∨
   (bgC A ws ag=0∧e=.returned .nilIface∧∃ g' q',aA w' rb 124 [.map (some mb),lv,.int .i64 at_,.slice wa ws.length wc,.bool false,.slice (some ⟨g',0,none⟩) (A.length+1) q',.int .i64 (pl:Int)]∧w'.ownsRow (rb+1) 58 3 (.slice (some ⟨g',0,none⟩) (A.length+1) q') (A.length+1) (cs.take (pl*3)++[.string (ws.getD 0 Pl.aJ),.string (ws.getD 1 Pl.aJ),.slice none 0 0]++cs.drop (pl*3))∧Frm (fun b=>b=rb∨(Value.slice p1 A.length q).ownBlock=some b) w w'∧(p1=some ⟨g',0,none⟩∨w.heap.size≤g')):=by
 have K6:=uh fB;have MQ:=uh dN;have RP:=uh gC;have HM:=uh hm;have Ug:Hid (∀ u∈cs,u.oneCell'=true):=BJ gC;have Sy:=uh AW;have c2:=fB.get 2 _ rfl;have c3:=fB.get 3 _ rfl;have c4:=fB.get 4 _ rfl;have cl:=fB.own.lt;have AJ:=uh (fun (code:Int) (W:World) (hW:Bel w W)=>vJ rb at_ code W ((hW.cell (p:=⟨rb,2,none⟩) cl).trans c2) (zL cl hW.size));have Su:Hid (Raw w bL [cq A] [.slice p1 A.length q]):=tZ (sh:=aq) dN gC (fun h=>by rw[Xs h];rfl) (by unfold maxLen;omega);by_cases fw:ws.length=2
 rotate_left
 ·have d2:((ws.length:Int) !=2)=true:=by simp;omega
  have gW:Hid (Bel w w):=zR;have gE:Hid (bgC A ws ag=2):=by show _=_;unfold bgC;rw[if_pos fw]
  clear fB dN gC hm hw AW;go_enter Tryz.func85,Tryz.ntmps85
  go_wp2_with (go_at_call 113;refine(AJ.out 2 _ gW.out).mono ?_;rintro e w' ⟨rfl,rfl⟩)
  go_ret;exact No ⟨by rw[gE.out];decide,by rw[gE.out];rfl,gW.out⟩
 have d2:((ws.length:Int) !=2)=false:=by simp;omega
 rcases dK hw with⟨e0,_⟩|⟨p,o,c',hv,hp,_,aE⟩
 ·omega
 injection hv with g1 _ g3
 subst g1;subst g3;have y0:w.cell? ⟨p,o,none⟩=some (.string (ws.getD 0 Pl.aJ)):=by simpa using aE 0 (by omega)
 have y1:w.cell? ⟨p,o+1,none⟩=some (.string (ws.getD 1 Pl.aJ)):=aE 1 (by omega);have Ry:Hid ((ws.getD 1 Pl.aJ).size≤maxLen):=by
  have e:ws.getD 1 Pl.aJ=ws[1]:=by simp[fw]
  rw[e];exact Sy.out _ (Xq _)
 have MF:(0:Int)<(ws.length:Int):=by omega
 have il:(1:Int)<(ws.length:Int):=by omega
 have vZ:Hid (bgC A ws ag=if (Pl.ah (ws.getD 0 Pl.aJ)).length=0 then 3 else if Pl.bE (ws.getD 1 Pl.aJ)=false then 4 else if ag then 9 else if A.length=60 then 10 else 0):=by show _=_;unfold bgC;rw[if_neg (by omega)]
 have tu:=uh (fun (X:World) (hX:Bel w X)=>Qz A (.slice p1 A.length q) ⟨ws.getD 0 Pl.aJ,ws.getD 1 Pl.aJ,[]⟩ pl X (Su.out.later hX) (by omega) eH h1 h2);rw[← qu]at tu;obtain⟨k0,cZ⟩:∃ k0,k0=ws.getD 0 Pl.aJ:=⟨_,rfl⟩
 obtain⟨k1,D0⟩:∃ k1,k1=ws.getD 1 Pl.aJ:=⟨_,rfl⟩
 rw[← cZ]at y0 vZ tu ⊢;rw[← D0]at y1 vZ tu Ry ⊢;have JE:=uh (fun W=>jV k1 W Ry.out);obtain⟨ra,rn,rc,qp⟩:=LB k0;have yV:Hid (∀ W,Bel w W→(Instr.lookup 121 (.map (some mb)) (.string k0) true).run Tryz.prog W=.ok (.tuple #[.agg #[.slice ra rn rc],.bool (!decide ((Pl.ah k0).length=0))]) W):=fun W hW=>by
  rw[← qp];exact rL ((hW.block mb (eP HM.out)).trans HM.out) k0
 obtain⟨kn,dy⟩:∃ kn,kn= !decide ((Pl.ah k0).length=0):=⟨_,rfl⟩
 have D3:=uh dy;rw[← dy]at yV;obtain⟨n,hn⟩:∃ n,n=A.length:=⟨_,rfl⟩
 have HN:=uh hn;rw[← hn]at K6 MQ tu vZ ⊢;have Bb:Hid (n≤60):=by show _≤_;omega
 have Sf:Hid (pl≤n):=by show _≤_;omega
 have l4:=uh fw;have c0:=fB.get 0 _ rfl;clear fB dN gC hm hw AW aE cZ D0 dy hn qu h1 h2 LB qp Su;go_enter Tryz.func85,Tryz.ntmps85
 go_upto_region 6 with fail
 have y0':w.drew.cell? ⟨p,o,none⟩=some (.string k0):=y0;have y1':w.drew.cell? ⟨p,o+1,none⟩=some (.string k1):=y1;go_region
 clear y0 y1 y0' y1' c3 c4;obtain⟨wb,fa⟩:∃ wb,wb=(w.alloc (.cells #[.string k0,.string k1,.slice none 0 0] 58)).drew:=⟨_,rfl⟩
 have MD:Bel w wb:=by rw[fa];exact XF (af zR _)
 obtain⟨q4,PE⟩:∃ q4,q4=w.heap.size:=⟨_,rfl⟩
 have Uf:Hid (aA wb q4 58 [.string k0,.string k1,.slice none 0 0]):=by
  show aA _ _ _ _;rw[fa,PE];exact(aA.new w [.string k0,.string k1,.slice none 0 0] 58 _ rfl).later (XF zR)
 have z0:wb.drew.cell? ⟨q4,0,none⟩=some (.string k0):=Uf.out.get 0 _ rfl;have zl:q4<wb.drew.heap.size:=Uf.out.own.lt;have zc:wb.drew.cell? ⟨rb,0,none⟩=some (.map (some mb)):=(MD.cell (p:=⟨rb,0,none⟩) cl).trans c0;have zk:=yV.out wb.drew (XF MD);have zr:rb<wb.drew.heap.size:=zL cl MD.size;have Ek:Bel wb (wb.alloc (.cells #[.slice none 0 0] 141)).drew:=XF (af zR _);have z0a:(wb.alloc (.cells #[.slice none 0 0] 141)).drew.cell? ⟨q4,0,none⟩=some (.string k0):=(Ek.cell (p:=⟨q4,0,none⟩) zl).trans z0;have zca:(wb.alloc (.cells #[.slice none 0 0] 141)).drew.cell? ⟨rb,0,none⟩=some (.map (some mb)):=(Ek.cell (p:=⟨rb,0,none⟩) zr).trans zc;have zka:=yV.out _ (ae MD Ek);have zla:q4<(wb.alloc (.cells #[.slice none 0 0] 141)).drew.heap.size:=zL zl Ek.size;have zra:rb<(wb.alloc (.cells #[.slice none 0 0] 141)).drew.heap.size:=zL zr Ek.size;have fm:=uh MD;clear c0 Ek MD;go_upto_region 7 with fail
 rw[← fa,← PE];clear fa PE;go_region
 all_goals
  clear z0 zl zc zk zr z0a zca zka zla zra;obtain⟨MG,Pe⟩:∃ MG,MG=(wb.alloc (.cells #[.slice ra rn rc] 141)).drew:=⟨_,rfl⟩
  have S9:Hid (Bel wb MG):=by show Below _ _ _;rw[Pe];exact XF (af zR _)
  have gZ:Hid (Bel w MG):=ae fm.out S9.out;have kX:=uh (K6.out.later gZ.out);have DV:=uh (Uf.out.later S9.out);have Ph:=uh (fun (X:World) (hX:Bel MG X)=>tu.out X (ae gZ.out hX));go_upto_region 8 with fail
  rw[← Pe];clear Pe;refine RY.bs MG zR (MZ rb n q pl p1 k0 k1 ag) (CK _ _ _ _ _ _ _ _) (by kernel_rfl) (by kernel_rfl) (by kernel_rfl) (by kernel_rfl) ?_ ?_
  ·intro ii o' ho a X hX hk hd;have zrb:=kX.out.later hX;have zrbl:=zrb.own.lt;have zq4:=DV.out.later hX;have zq4l:=zq4.own.lt;match ii,ho with
   |0,rfl=>
    exact RY.p (.pointer (some ⟨rb,0,none⟩)) (by simp[execOp,go_sem,RY.K hk 0 (.pointer (some ⟨rb,0,none⟩))])
   |1,rfl=>
    exact RY.p (.pointer (some ⟨rb,0,none⟩)) (by simp[execOp,go_sem,RY.E hd 0 46])
   |2,rfl=>
    exact RY.p (.pointer (some ⟨rb,5,none⟩)) (by simp[execOp,go_sem,RY.E hd 1 47])
   |3,rfl=>
    have e48:=RY.E hd 2 48;have ycl_:=zrb.get 5 _ rfl;exact RY.p (.slice p1 n q) (by simp[execOp,go_sem,e48,ycl_])
   |4,rfl=>
    have v4:a.eval (.tmp 4)=.pointer (some ⟨q4,0,none⟩):=(hk 4 (by kernel_rfl)).trans rfl;exact No ⟨_,X,ak 58 _ rfl q4 0 v4 [.string k0,.string k1,.slice none 0 0] _ zq4.at_ Tryz.underlying58 rfl (by kernel_rfl),zR,rfl⟩
   |5,rfl=>
    have e49:=RY.E hd 3 49;have e50:=RY.E hd 4 50;refine Xk ⟨114,#[.slice p1 n q,.agg #[.string k0,.string k1,.slice none 0 0],.func (.func 72) #[] #[]],by simp[go_sem,e49,e50],(Ph.out X hX).mono ?_⟩;rintro e W' ⟨rfl,hb⟩;exact⟨_,rfl,hb,rfl⟩
   |6,rfl=>
    exact RY.p (.tuple #[.int .i64 (pl:Int),.bool ag]) (by simp[execOp,go_sem,RY.E hd 5 51])
   |7,rfl=>
    exact RY.p (.int .i64 (pl:Int)) (by simp[execOp,go_sem,RY.E hd 6 45])
   |8,rfl=>
    exact RY.p (.bool ag) (by simp[execOp,go_sem,RY.E hd 6 45])
   |9,rfl=>
    exact RY.p (.int .i64 (pl:Int)) (by simp[execOp,go_sem,RY.E hd 7 52])
   |10,rfl=>
    exact RY.p (.bool ag) (by simp[execOp,go_sem,RY.E hd 8 53])
   |n+11,ho=>simp at ho
  intro X vs hX bn;have q7:vs 7=_:=bn 9 _ 7 rfl rfl;have q8:vs 8=_:=bn 10 _ 8 rfl rfl;simp only[RY.aC,Act.put,so,As,An];rw[q7,q8];generalize vs 46=s46,vs 47=s47,vs 48=s48,vs 49=s49,vs 50=Cn,vs 51=s51,vs 45=s45,vs 52=s52,vs 53=s53;clear bn q7 q8;replace kX:=uh (kX.out.later hX)
  replace DV:=uh (DV.out.later hX)
  have gW:Hid (Bel w X):=ae gZ.out hX;obtain⟨wq,yN⟩:∃ wq,wq=X:=⟨_,rfl⟩
  rw[← yN]at kX DV gW ⊢;clear yN hX Ph;have d1:=DV.out.get 1 _ rfl;have d5:=kX.out.get 5 _ rfl;have dl1:=DV.out.own.lt;have dl5:=kX.out.own.lt;cases kn
  ·have gE:Hid (bgC A ws ag=3):=by
    show _=_;have:(Pl.ah k0).length=0:=by have:=D3.out;simpa using this.symm
    rw[vZ.out,if_pos this]
   go_wp2_with (go_at_call 113;refine(AJ.out 3 _ gW.out).mono ?_;rintro e w' ⟨rfl,rfl⟩)
   go_ret;exact No ⟨by rw[gE.out];decide,by rw[gE.out];rfl,gW.out⟩
  have Jd:Hid (bgC A ws ag=if Pl.bE k1=false then 4 else if ag then 9 else if n=60 then 10 else 0):=by
   show _=_;have:¬ (Pl.ah k0).length=0:=by have:=D3.out;simpa using this.symm
   rw[vZ.out,if_neg this]
  obtain⟨nm,uS⟩:∃ nm,nm=Pl.bE k1:=⟨_,rfl⟩
  rw[← uS]at JE Jd;clear uS;cases nm
  ·have gE:Hid (bgC A ws ag=4):=Jd.out;go_wp2_with (first|(go_at_call 73;refine(JE.out _).mono ?_;rintro e w' ⟨rfl,rfl⟩)|(go_at_call 113;refine(AJ.out 4 _ gW.out).mono ?_;rintro e w' ⟨rfl,rfl⟩))
   go_ret;exact No ⟨by rw[gE.out];decide,by rw[gE.out];rfl,gW.out⟩
  cases ag
  rotate_left
  ·have gE:Hid (bgC A ws true=9):=Jd.out;go_wp2_with (first|(go_at_call 73;refine(JE.out _).mono ?_;rintro e w' ⟨rfl,rfl⟩)|(go_at_call 113;refine(AJ.out 9 _ gW.out).mono ?_;rintro e w' ⟨rfl,rfl⟩))
   go_ret;exact No ⟨by rw[gE.out];decide,by rw[gE.out];rfl,gW.out⟩
  by_cases hn60:n=60
  ·have gE:Hid (bgC A ws false=10):=by show _=_;rw[Jd.out];simp[hn60]
   have d7:((n:Int)==60)=true:=by simp;omega
   go_wp2_with (first|(go_at_call 73;refine(JE.out _).mono ?_;rintro e w' ⟨rfl,rfl⟩)|(go_at_call 113;refine(AJ.out 10 _ gW.out).mono ?_;rintro e w' ⟨rfl,rfl⟩))
   go_ret;exact No ⟨by rw[gE.out];decide,by rw[gE.out];rfl,gW.out⟩
  have gE:Hid (bgC A ws false=0):=by show _=_;rw[Jd.out];simp[hn60]
  have d7:((n:Int)==60)=false:=by simp;omega
  have PA:Hid (wq.ownsRow (rb+1) 58 3 (.slice p1 n q) n cs):=bT MQ.out (Frm.bB (S:=fun _=>False) gW.out) (fun _ _ h=>h);have kg:Hid (∀ u∈cs,u.oneCell'=true):=Ug.out;have JK:Hid (∀ g,p1=some ⟨g,0,none⟩→g<wq.heap.size):=fun g hg=>by
   obtain⟨_,cur,ks⟩:=cC PA.out (g:=g) (by rw[hg];rfl);exact eP ks
  have mP:Hid (rb+1≤wq.heap.size):=dl5;have JH:=gW;go_upto_region 17 with(first|(go_at_call 73;refine(JE.out _).mono ?_;rintro e w' ⟨rfl,rfl⟩))
  clear d1 d5 dl1 dl5;refine RY.nY wq zR (Ki rb n q pl wq.heap.size p1 k0 k1) (Dz _ _ _ _ _ _ _ _) [0,9,10] (fun j u=>Ki rb n q pl wq.heap.size p1 k0 k1 j u wq) (by intro j hj u W;simp only[XD,List.not_mem_nil,or_false]at hj;rcases hj with rfl|rfl|rfl<;>exact Iff.rfl) (fun u W'=>∃ g' q',u=.slice (some ⟨g',0,none⟩) (n+1) q'∧W'.ownsRow (rb+1) 58 3 (.slice (some ⟨g',0,none⟩) (n+1) q') (n+1) (cs.take (pl*3)++[.string k0,.string k1,.slice none 0 0]++cs.drop (pl*3))∧Frm (fun b=>(Value.slice p1 n q).ownBlock=some b) wq W'∧(p1=some ⟨g',0,none⟩∨wq.heap.size≤g')) (fun W'=>∃ g' q',aA W' rb 124 [.map (some mb),lv,.int .i64 at_,.slice (some ⟨p,o,none⟩) ws.length wc,.bool false,.slice (some ⟨g',0,none⟩) (n+1) q',.int .i64 op]∧W'.ownsRow (rb+1) 58 3 (.slice (some ⟨g',0,none⟩) (n+1) q') (n+1) (cs.take (pl*3)++[.string k0,.string k1,.slice none 0 0]++cs.drop (pl*3))∧Frm (fun b=>b=rb∨(Value.slice p1 n q).ownBlock=some b) wq W'∧(p1=some ⟨g',0,none⟩∨wq.heap.size≤g')) 11 8 12 (by decide) (by kernel_rfl) (by kernel_rfl) (by kernel_rfl) (by kernel_rfl) rfl [8,10] (by kernel_rfl) (by kernel_rfl) [4,5,7] (by kernel_rfl) (by kernel_rfl) (by kernel_rfl) _ _ rfl rfl rfl (by kernel_rfl) ?_ ?_ ?_ (by decide) ?_
  ·intro ii o' ho wJ Ix a X pI hk hd;match ii,ho with
   |0,rfl=>
    exact No ⟨.pointer (some ⟨rb,0,none⟩),X,by simp[execOp,go_sem,RY.K hk 0 (.pointer (some ⟨rb,0,none⟩))],(fun _=>rfl),zR,rfl⟩
   |1,rfl=>
    have hX:=pI (by decide);exact No ⟨.pointer (some ⟨rb,0,none⟩),X,by simp[execOp,go_sem,RY.K hk 0 (.pointer (some ⟨rb,0,none⟩))],(fun _=>rfl),zR,rfl⟩
   |2,rfl=>
    have hX:=pI (by decide);have e80:a.tmps[80]?.getD undef=.pointer (some ⟨rb,0,none⟩):=(RY.ai a 80).trans (hd 1 _ 80 rfl rfl ⟨⟨1,.data⟩,by simp,rfl,rfl⟩ (by decide) (by decide) (by decide));exact No ⟨.pointer (some ⟨rb,0,none⟩),X,by simp[execOp,go_sem,e80],(fun _=>rfl),zR,rfl⟩
   |3,rfl=>
    have hX:=pI (by decide);have e81:a.tmps[81]?.getD undef=.pointer (some ⟨rb,0,none⟩):=(RY.ai a 81).trans (hd 2 _ 81 rfl rfl ⟨⟨2,.data⟩,by simp,rfl,rfl⟩ (by decide) (by decide) (by decide));exact No ⟨.pointer (some ⟨rb,5,none⟩),X,by simp[execOp,go_sem,e81],(fun _=>rfl),zR,rfl⟩
   |4,rfl=>
    have hX:=pI (by decide);have zrb:=kX.out.later hX;have zrbl:=zrb.own.lt;have zq4:=DV.out.later hX;have zq4l:=zq4.own.lt;have e82:a.tmps[82]?.getD undef=.pointer (some ⟨rb,5,none⟩):=(RY.ai a 82).trans (hd 3 _ 82 rfl rfl ⟨⟨3,.data⟩,by simp,rfl,rfl⟩ (by decide) (by decide) (by decide));have ycl_:=zrb.get 5 _ rfl;exact No ⟨.slice p1 n q,X,by simp[execOp,go_sem,e82,ycl_],(fun _=>rfl),zR,rfl⟩
   |5,rfl=>
    have hX:=pI (by decide);exact No ⟨.int .i64 (pl:Int),X,by simp[execOp,go_sem,RY.K hk 7 (.int .i64 (pl:Int))],(fun _=>rfl),zR,rfl⟩
   |6,rfl=>
    have hX:=pI (by decide);have zrb:=kX.out.later hX;have zrbl:=zrb.own.lt;have zq4:=DV.out.later hX;have zq4l:=zq4.own.lt;have v4:a.eval (.tmp 4)=.pointer (some ⟨q4,0,none⟩):=(hk 4 (by kernel_rfl)).trans rfl;exact No ⟨_,X,ak 58 _ rfl q4 0 v4 [.string k0,.string k1,.slice none 0 0] _ zq4.at_ Tryz.underlying58 rfl (by kernel_rfl),(fun _=>rfl),zR,rfl⟩
   |7,rfl=>
    have hX:=pI (by decide);have zrb:=kX.out.later hX;have zrbl:=zrb.own.lt;have zq4:=DV.out.later hX;have zq4l:=zq4.own.lt;have e85:a.tmps[85]?.getD undef=.agg #[.string k0,.string k1,.slice none 0 0]:=(RY.ai a 85).trans (hd 6 _ 85 rfl rfl ⟨⟨6,.data⟩,by simp,rfl,rfl⟩ (by decide) (by decide) (by decide));exact No ⟨.slice (some ⟨X.heap.size,0,none⟩) 1 1,X.alloc (.cells #[.string k0,.string k1,.slice none 0 0] 58),by simp[execOp,go_sem,e85],(fun h=>absurd h (by decide)),af zR _,X.heap.size,rfl,EH X wq.heap.size _ _ _ hX.size⟩
   |8,ho=>
    exact absurd rfl Ix
   |9,rfl=>
    have e79:a.tmps[79]?.getD undef=.pointer (some ⟨rb,0,none⟩):=(RY.ai a 79).trans (hd 0 _ 79 rfl rfl ⟨⟨0,.data⟩,by simp,rfl,rfl⟩ (by decide) (by decide) (by decide));exact No ⟨.pointer (some ⟨rb,0,none⟩),X,by simp[execOp,go_sem,e79],(fun _=>rfl),zR,rfl⟩
   |10,rfl=>
    have e88:a.tmps[88]?.getD undef=.pointer (some ⟨rb,0,none⟩):=(RY.ai a 88).trans (hd 9 _ 88 rfl rfl ⟨⟨9,.data⟩,by simp,rfl,rfl⟩ (by decide) (by decide) (by decide));exact No ⟨.pointer (some ⟨rb,5,none⟩),X,by simp[execOp,go_sem,e88],(fun _=>rfl),zR,rfl⟩
   |n+11,ho=>omega
  ·intro a X hX hk hd;have e83:a.tmps[83]?.getD undef=.slice p1 n q:=(RY.ai a 83).trans (hd 4 _ 83 rfl rfl ⟨⟨4,.data⟩,by simp,rfl,rfl⟩ (by decide) (by decide));have e84:a.tmps[84]?.getD undef=.int .i64 (pl:Int):=(RY.ai a 84).trans (hd 5 _ 84 rfl rfl ⟨⟨5,.data⟩,by simp,rfl,rfl⟩ (by decide) (by decide));obtain⟨g86,q86,VI⟩:=hd 7 _ 86 rfl rfl ⟨⟨7,.data⟩,by simp,rfl,rfl⟩ (by decide) (by decide);have e86:a.tmps[86]?.getD undef=.slice (some ⟨g86,0,none⟩) 1 1:=(RY.ai a 86).trans q86;refine⟨115,#[.slice p1 n q,.int .i64 (pl:Int),.slice (some ⟨g86,0,none⟩) 1 1],by simp[go_sem,e83,e84,e86],(Ny (rb+1) X p1 n q cs [.string k0,.string k1,.slice none 0 0] 1 (bT PA.out (Frm.bB (S:=fun _=>False) hX) (fun _ _ h=>h)) wq.heap.size (.slice (some ⟨g86,0,none⟩) 1 1) kg.out (by simp[Value.oneCell']) VI (by decide) (fun g hg=>JK.out g hg) pl Sf.out (by have:=Bb.out;omega) (Xg mP.out hX.size)).mono ?_⟩;rintro e W' ⟨g',q',rfl,h1,h2,h3⟩;exact⟨_,rfl,g',q',rfl,h1,((Frm.bB hX).trans (h2.frm.mono (fun b ⟨g,e1,e2⟩=>by rw[e1,e2];rfl))),h3.imp id (fun h=>Xg hX.size h)⟩
  ·intro a X vals LG hk K8 hd;obtain⟨g',q',e1,h1,h2,h3⟩:=LG;have e87:a.eval (.tmp 87)=_:=(hd 8 _ 87 rfl rfl ⟨⟨8,.data⟩,by simp,rfl,rfl⟩ (by decide)).trans e1;have e89:a.eval (.tmp 89)=.pointer (some ⟨rb,5,none⟩):=(hd 10 _ 89 rfl rfl ⟨⟨10,.data⟩,by simp,rfl,rfl⟩ (by decide)).trans (K8 10 (by decide));have hb:=kX.out.frm h2 (fun e=>by have:=(cC PA.out e).1;omega);have hc:=hb.get 5 _ rfl;have hl:=hb.own.lt;have hf:=hb.own.frozen 5;have e87':a.tmps[87]?.getD undef=_:=(RY.ai a 87).trans e87;have e89':a.tmps[89]?.getD undef=_:=(RY.ai a 89).trans e89;refine⟨X.setCell ⟨rb,5,none⟩ (.slice (some ⟨g',0,none⟩) (n+1) q'),by simp[execOp,go_sem,e87',e89',hc,hf],g',q',hb.set 5 _ (by simp), ?_, ?_,h3⟩
   ·exact bT h1 ((Marks.sc (S:=fun b=>b=rb) X rfl 5 _).frm (fun _ h=>h)) (fun g hg e=>by have:=(cC h1 hg).1;omega)
   ·exact(h2.mono (fun _ h=>Xk h)).trans ((Marks.sc (S:=fun b=>b=rb) X rfl 5 _).frm (fun _ h=>No h))
  ·intro vs X PJ;simp only[RY.aC,Act.put,so,As,An];generalize vs 79=s79,vs 80=s80,vs 81=s81,vs 82=s82,vs 83=s83,vs 84=s84,vs 85=Qh,vs 86=s86,vs 87=VV,vs 88=s88,vs 89=s89;obtain⟨g',q',fL,yP,k9,th⟩:=PJ;have IG:Hid (p1=some ⟨g',0,none⟩∨w.heap.size≤g'):=th.imp id (fun h=>Xg JH.out.size h);have fS:=uh (Xt fL (Xt yP k9));have d6:=fL.get 6 _ rfl;have dl:=fL.own.lt;have df:=fL.own.frozen 6;clear fL yP k9 th;go_wp2;go_ret;refine Xk ⟨gE.out,rfl,g',q',fS.out.1.set 6 _ (by simp), ?_, ?_,IG.out⟩
   ·exact bT fS.out.2.1 ((Marks.sc (S:=fun b=>b=rb) X rfl 6 _).frm (fun _ h=>h)) (fun g hg e=>by have:=(cC fS.out.2.1 hg).1;omega)
   ·exact((Frm.bB JH.out).trans fS.out.2.2).trans ((Marks.sc (S:=fun b=>b=rb) X rfl 6 _).frm (fun _ h=>No h))
end Go.Proofs.YtgiglpnaekbegaaGreatDoor
