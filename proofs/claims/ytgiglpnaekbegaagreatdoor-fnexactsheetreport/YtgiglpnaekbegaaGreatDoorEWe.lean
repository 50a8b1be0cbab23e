import Derived.Test.YtgiglpnaekbegaaGreatDoorEWb
import Derived.Test.YtgiglpnaekbegaaGreatDoorRgFc
import Derived.Test.YtgiglpnaekbegaaGreatDoorEPw
import Derived.Test.YtgiglpnaekbegaaGreatDoorETx
import Derived.Test.YtgiglpnaekbegaaGreatDoorECs
namespace Go.Proofs.YtgiglpnaekbegaaGreatDoor
set_option maxRecDepth 8000
set_option maxHeartbeats 40000000
open Go.RowKit Go.Deep
theorem iG (c:UInt8) (w:World):
  Calls Tryz.prog 58 #[.int .u8 c.toNat] w fun e w'=>e=.returned (.int .i64 (Pl.cm c))∧w=w':=by
 have h8:=Pl.yB c;by_cases h1:48≤c.toNat∧c.toNat≤57
 ·have HE:Hid ((c.toNat:Int) - 48=Pl.cm c):=by show _=_;rw[Pl.cm,if_pos h1]
  obtain⟨a1,a2⟩:=h1;go_enter Tryz.func58,Tryz.ntmps58
  go_wp2;go_ret;exact⟨Pl.dj (by first|exact HE.out|(rw[← HE.out];go_num)),rfl⟩
 by_cases h2:97≤c.toNat∧c.toNat≤102
 ·have HE:Hid ((c.toNat:Int) - 87=Pl.cm c):=by show _=_;rw[Pl.cm,if_neg h1,if_pos h2]
  obtain⟨a1,a2⟩:=h2;have a3:¬ c.toNat≤57:=by omega
  go_enter Tryz.func58,Tryz.ntmps58
  go_wp2;go_ret;exact⟨Pl.dj (by first|exact HE.out|(rw[← HE.out];go_num)),rfl⟩
 have HE:Hid (-1=Pl.cm c):=by show _=_;rw[Pl.cm,if_neg h1,if_neg h2]
 by_cases b1:48≤c.toNat
 all_goals by_cases b2:97≤c.toNat
 all_goals first|(exfalso;omega)|skip
 all_goals
  (try have b3:¬ c.toNat≤57:=by omega)
  (try have b4:¬ c.toNat≤102:=by omega)
  clear h1 h2;go_enter Tryz.func58,Tryz.ntmps58
  go_wp2;go_ret;exact⟨Pl.dj HE.out,rfl⟩
theorem Gn (s:ByteArray) (n:Nat) (i:Int) (hi:i=(n:Int)) (h:n<s.size) (w:World):(Instr.index 9 (.string s) (.int .i64 i)).run Tryz.prog w=.ok (.int .u8 (s[n].toNat:Int)) w:=by
 subst hi;rw[run_index_string w 9 _ .i64 (n:Int) (by kernel_rfl),dif_pos ⟨by omega,by omega⟩];simp only[Int.toNat_natCast]
theorem od {a b:ByteArray} {c d:Int} (h:a=b) (g:c=d):Ending.returned (.tuple #[.string a,.int .i64 c])=.returned (.tuple #[.string b,.int .i64 d]):=by rw[h,g]
def NC (va:Value) (s:ByteArray) (k:Nat) (b1 b2 z:UInt8) (jj:Nat) (u:Value) (W:World):Prop:=match jj with
 |0=>u=va
 |1|7=>u=.string s
 |2|8=>u=.int .i64 (k:Int)
 |3=>u=.int .i64 ((k:Int)+1)
 |4=>u=.int .u8 (b1.toNat:Int)
 |5=>u=.int .i64 (Pl.cm b1)
 |6=>u=.int .i64 (16*Pl.cm b1)
 |9=>u=.int .i64 ((k:Int)+2)
 |10=>u=.int .u8 (b2.toNat:Int)
 |11=>u=.int .i64 (Pl.cm b2)
 |12=>u=.int .i64 (16*Pl.cm b1+Pl.cm b2)
 |13=>u=.int .u8 (z.toNat:Int)
 |14=>∃ B,u=.slice (some ⟨B,0,none⟩) 1 1∧W.heap[B]? =some (.cells #[.int .u8 (z.toNat:Int)] 5 (0,0))
 |_=>True
theorem CT (va:Value) (s:ByteArray) (k:Nat) (b1 b2 z:UInt8):∀ j u W W',Bel W W'→NC va s k b1 b2 z j u W→NC va s k b1 b2 z j u W':=by
 intro j u W W' hb h;match j with
 |0|1|2|3|4|5|6|7|8|9|10|11|12|13=>exact h
 |14=>
  obtain⟨B,e,hB⟩:=h;exact⟨B,e,(hb.block B (Xh.1 hB).1).trans hB⟩
 |n+15=>exact trivial
theorem zq (s:ByteArray) (w:World) (hs:s.size≤1048576):
  Calls Tryz.prog 36 #[.string s] w fun e w'=>e=.returned (.tuple #[.string ⟨(Pl.ko s.data.toList).1.toArray⟩,.int .i64 ((Pl.ko s.data.toList).2:Int)])∧Bel w w':=by
 go_enter Tryz.func36,Tryz.ntmps36
 go_wp2;go_loopw [4,5] (fun v i wr=>∃ (k:Nat) (O:List UInt8),k≤s.size∧i=.int .i64 k∧By wr w.heap.size v O∧O.length≤k∧Bel w wr∧Pl.dz s.data.toList=(Pl.dz (s.data.toList.drop k)).map fun p=>(O++p.1,k+p.2)) (fun _ i _=>s.size - (intOf i).toNat)
 case atStart=>exact⟨0,[],zN,rfl,By.emp w w.heap.size zE,zE,af zR _,by simp⟩
 case round=>
  rename_i v _ _
  obtain⟨k,O,hk,rfl,hO,sK,hW,hX⟩:=hrel;have kB:=uh sK;have HO:=uh hO;have HW:=uh hW;have HX:=uh hX;obtain⟨sa,sc,hv⟩:=hO.shape;subst hv;clear hO hW sK hX;by_cases bq:k<s.size
  rotate_left
  ·obtain rfl:k=s.size:=by omega
   have HR:Hid (Pl.ko s.data.toList=([],0)):=by show _=_;rw[Pl.ko,HX.out,Pl.Uc];rfl
   go_wp2;go_ret2;exact⟨od (by first|(rw[HR.out];rfl)|rw[HR.out]) (by first|(rw[HR.out];rfl)|rw[HR.out]),HW.out⟩
  have IL:=uh (Pl.yB s[k]);by_cases c1:s[k].toNat=34
  ·have HR:Hid (Pl.ko s.data.toList=(O,k+1)):=by show _=_;rw[Pl.ko,HX.out,Pl.QZ s k bq c1];simp
   have d1:((s[k].toNat:Int)==34)=true:=by simp;omega
   have Tl:=HO.out.Bt;clear c1;go_wp2;go_ret2;exact⟨od (by rw[HR.out]) (by rw[HR.out];simp),HW.out⟩
  have d1:((s[k].toNat:Int)==34)=false:=by simp;omega
  by_cases c2:s[k].toNat=92
  ·have d2:((s[k].toNat:Int)==92)=true:=by simp;omega
   by_cases h2:k+2<s.size
   rotate_left
   ·have HR:Hid (Pl.ko s.data.toList=([],0)):=by show _=_;rw[Pl.ko,HX.out,Pl.NZ s k bq c2 h2];rfl
    have d3:(s.size:Int)≤(k:Int)+2:=by omega
    have k2:IntKind.i64.wrap ((k:Int)+2)=(k:Int)+2:=IntWalk.i64_in _ ⟨by omega,by omega⟩;clear c1 c2 h2;go_wp2;go_ret2;exact⟨od (by first|(rw[HR.out];rfl)|rw[HR.out]) (by first|(rw[HR.out];rfl)|rw[HR.out]),HW.out⟩
   have nJ:=uh (fun (h1:Pl.cm s[k+1]<0∨Pl.cm s[k+2]<0)=>Pl.NL s k bq c2 h2 h1);have VN:=uh (fun y1 y2=>Pl.QL s k bq c2 h2 y1 y2);have S1:=uh (fun w=>Gn s (k+1) ((k:Int)+1) (by omega) (by omega) w);have Ro:=uh (fun w=>Gn s (k+2) ((k:Int)+2) (by omega) h2 w);obtain⟨b1,cr⟩:∃ b,b=s[k+1]:=⟨_,rfl⟩
   obtain⟨b2,dD⟩:∃ b,b=s[k+2]:=⟨_,rfl⟩
   rw[← cr]at nJ VN S1;rw[← dD]at nJ VN Ro;have g1:=Pl.qh b1;have g2:=Pl.qh b2;clear cr dD;have d3:¬ (s.size:Int)≤(k:Int)+2:=by omega
   have jL:Hid (IntKind.i64.wrap ((k:Int)+1)=(k:Int)+1):=IntWalk.i64_in _ ⟨by omega,by omega⟩;have sP:Hid (IntKind.i64.wrap ((k:Int)+2)=(k:Int)+2):=IntWalk.i64_in _ ⟨by omega,by omega⟩;have i1:=S1.out;have i2:=Ro.out;have k1:=jL.out;have k2:=sP.out;clear c1 c2;by_cases p1:Pl.cm b1<0
   ·have HR:Hid (Pl.ko s.data.toList=([],0)):=by show _=_;rw[Pl.ko,HX.out,nJ.out (No p1)];rfl
    clear g1 g2;go_wp2_with (go_at_call 58;refine(iG _ _).mono ?_;rintro e w' ⟨rfl,rfl⟩)
    go_ret2;exact⟨od (by first|(rw[HR.out];rfl)|rw[HR.out]) (by first|(rw[HR.out];rfl)|rw[HR.out]),HW.out⟩
   by_cases p2:Pl.cm b2<0
   ·have HR:Hid (Pl.ko s.data.toList=([],0)):=by show _=_;rw[Pl.ko,HX.out,nJ.out (Xk p2)];rfl
    clear g1 g2;go_wp2_with (go_at_call 58;refine(iG _ _).mono ?_;rintro e w' ⟨rfl,rfl⟩)
    go_ret2;exact⟨od (by first|(rw[HR.out];rfl)|rw[HR.out]) (by first|(rw[HR.out];rfl)|rw[HR.out]),HW.out⟩
   obtain⟨z,hz⟩:∃ z,z=UInt8.ofNat (16*Pl.cm b1+Pl.cm b2).toNat:=⟨_,rfl⟩
   have nL:=uh (Pl.QD HX.out (VN.out (by omega) (by omega)));rw[← hz]at nL;have pT:Hid (IntKind.i64.wrap (16*Pl.cm b1)=16*Pl.cm b1):=IntWalk.i64_in _ ⟨by omega,by omega⟩;have gT:Hid (IntKind.i64.wrap (16*Pl.cm b1+Pl.cm b2)=16*Pl.cm b1+Pl.cm b2):=IntWalk.i64_in _ ⟨by omega,by omega⟩;have Jv:Hid (IntKind.u8.wrap (16*Pl.cm b1+Pl.cm b2)=(z.toNat:Int)):=by show _=_;rw[oz _ (by omega) (by omega),hz,UInt8.toNat_ofNat'];omega
   clear hz g1 g2;go_upto_region 11 with(go_at_call 58;refine(iG _ _).mono ?_;rintro e w' ⟨rfl,rfl⟩)
   clear i1 i2 k1 k2;refine RY.eY wr zR (NC (.slice sa O.length sc) s k b1 b2 z) (CT _ _ _ _ _ _) (fun u W'=>∃ g cap,u=.slice (some ⟨g,0,none⟩) (O.length+1) cap∧By W' w.heap.size u (O++[z])∧Bel w W') 15 12 63 4 (by kernel_rfl) (by kernel_rfl) (by kernel_rfl) (by kernel_rfl) (by kernel_rfl) rfl (by kernel_rfl) _ _ rfl rfl rfl rfl rfl (by kernel_rfl) ?_ ?_ ?_
   ·intro i o' ho iN a X hX hk hd;match i,ho with
    |0,rfl=>
     have e4:a.tmps[4]?.getD undef=.slice sa O.length sc:=(RY.ai a 4).trans ((hk 4 (RY.aS (by kernel_rfl))).trans rfl);exact RY.p (.slice sa O.length sc) (by simp[execOp,go_sem,e4])
    |1,rfl|7,rfl=>
     have e0:a.tmps[0]?.getD undef=.string s:=(RY.ai a 0).trans ((hk 0 (RY.aS (by kernel_rfl))).trans rfl);exact RY.p (.string s) (by simp[execOp,go_sem,e0])
    |2,rfl|8,rfl=>
     have e5:a.tmps[5]?.getD undef=.int .i64 (k:Int):=(RY.ai a 5).trans ((hk 5 (RY.aS (by kernel_rfl))).trans rfl);exact RY.p (.int .i64 (k:Int)) (by simp[execOp,go_sem,e5])
    |3,rfl=>
     exact RY.p (.int .i64 ((k:Int)+1)) (by simp[execOp,go_sem,RY.E1 hd 2 50,jL.out])
    |4,rfl=>
     exact RY.p (.int .u8 (b1.toNat:Int)) (by simp[execOp,go_sem,RY.E1 hd 1 49,RY.E1 hd 3 51,S1.out X])
    |5,rfl=>
     have e52:=RY.E1 hd 4 52;refine Xk ⟨58,#[.int .u8 (b1.toNat:Int)],by simp[go_sem,e52],(iG b1 X).mono ?_⟩;rintro e W' ⟨rfl,rfl⟩;exact⟨_,rfl,zR,rfl⟩
    |6,rfl=>
     exact RY.p (.int .i64 (16*Pl.cm b1)) (by simp[execOp,go_sem,RY.E1 hd 5 53,pT.out])
    |9,rfl=>
     exact RY.p (.int .i64 ((k:Int)+2)) (by simp[execOp,go_sem,RY.E1 hd 8 56,sP.out])
    |10,rfl=>
     exact RY.p (.int .u8 (b2.toNat:Int)) (by simp[execOp,go_sem,RY.E1 hd 7 55,RY.E1 hd 9 57,Ro.out X])
    |11,rfl=>
     have e58:=RY.E1 hd 10 58;refine Xk ⟨58,#[.int .u8 (b2.toNat:Int)],by simp[go_sem,e58],(iG b2 X).mono ?_⟩;rintro e W' ⟨rfl,rfl⟩;exact⟨_,rfl,zR,rfl⟩
    |12,rfl=>
     exact RY.p (.int .i64 (16*Pl.cm b1+Pl.cm b2)) (by simp[execOp,go_sem,RY.E1 hd 6 54,RY.E1 hd 11 59,gT.out])
    |13,rfl=>
     exact RY.p (.int .u8 (z.toNat:Int)) (by simp[execOp,go_sem,RY.E1 hd 12 60,Jv.out])
    |14,rfl=>
     have e61:=(RY.ai a 61).trans (hd 13 _ 61 rfl rfl ⟨⟨13,.data⟩,by simp,rfl,rfl⟩ (by decide));exact No ⟨.slice (some ⟨X.heap.size,0,none⟩) 1 1,X.alloc (.cells #[.int .u8 (z.toNat:Int)] 5),by simp[execOp,go_sem,e61],af zR _,X.heap.size,rfl,heap_alloc_new X _⟩
    |n+15,ho=>omega
   ·intro a X hX hk hd;have e48:=hd 0 _ 48 rfl rfl ⟨⟨0,.data⟩,by simp,rfl,rfl⟩ (by decide);obtain⟨B,e62,hB⟩:=hd 14 _ 62 rfl rfl ⟨⟨14,.data⟩,by simp,rfl,rfl⟩ (by decide);have ME:=HO.out.later hX;obtain⟨g,cap,X',hr,cr,dD⟩:=zn ME 43 B 1 1 [z] rfl _ rfl hB (by decide) (by have:=kB.out;omega) (Xg HW.out.size hX.size);exact⟨_,X',aQ (.tmp 48) (.tmp 62) 43 rfl e48 e62 hr,g,cap,rfl,cr,ME.below (ae HW.out hX) dD zE⟩
   ·rintro vals X hK e2;simp only[RY.aC,Act.put,so,As,An];rw[e2];generalize vals 48=s48;generalize vals 49=s49;generalize vals 50=Cn;generalize vals 51=s51;generalize vals 52=s52;generalize vals 53=s53;generalize vals 54=s54;generalize vals 55=s55;generalize vals 56=s56;generalize vals 57=s57;generalize vals 58=s58;generalize vals 59=s59;generalize vals 60=s60;generalize vals 61=s61;generalize vals 62=s62;obtain⟨g,cap,e1,hg,hb⟩:=hK;rw[e1]at hg ⊢;have HN:=uh (Xt hg hb);clear hg hb e1 e2 HO HW;go_wp2;go_roundw
    case rel=>exact⟨k+3,O++[z],by omega,by go_num,HN.out.1,by rw[At];have:=kB.out;simp;omega,HN.out.2,nL.out⟩
    case measure=>simp[intOf];omega
  have d2:((s[k].toNat:Int)==92)=false:=by simp;omega
  by_cases c3:32≤s[k].toNat∧s[k].toNat≤126
  ·have nL:=uh (Pl.QD HX.out (Pl.TW s k bq c1 c2 c3));obtain⟨b,hb⟩:∃ b,b=s[k]:=⟨_,rfl⟩
   have lE:s[k]=b:=hb.symm;clear hb;rw[lE]at nL d1 d2 c1 c2 c3;obtain⟨h1,h2⟩:=c3;clear c1 c2;go_wp2_with (refine lx rfl _ _ rfl w.heap.size (.slice sa O.length sc) O rfl (HO.out.later (af zR _)) wr.heap.size 1 1 [b] rfl rfl (World.news_of_block (cs:=#[.int .u8 (b.toNat:Int)]) (heap_alloc_new wr _)) (by decide) (by have:=kB.out;omega) (by have:=HW.out.size;simp;omega) ?_;intro gg1 PW w1 q1 q2)
   go_roundw
   case rel=>exact⟨k+1,O++[b],by omega,by go_num,q1,by rw[At];have:=kB.out;simp;omega,(HO.out.later (af zR _)).below (af HW.out _) q2 zE,nL.out⟩
   case measure=>simp[intOf];omega
  have HR:Hid (Pl.ko s.data.toList=([],0)):=by show _=_;rw[Pl.ko,HX.out,Pl.T6 s k bq c1 c2 c3];rfl
  by_cases h1:32≤s[k].toNat
  all_goals
   (try have h2:¬ s[k].toNat≤126:=fun h=>c3 ⟨h1,h⟩)
   clear c1 c2 c3;go_wp2;go_ret2;exact⟨od (by first|(rw[HR.out];rfl)|rw[HR.out]) (by first|(rw[HR.out];rfl)|rw[HR.out]),HW.out⟩
def nv (l:List UInt8):List Dt:=match Pl.bo l 0 with
 |some ws=> [.row ws.length (txD ws),.b false]
 |none=> [.row 0 [],.b true]
structure WC (w wr:World) (v:Value) (ws:List ByteArray):Prop where
 bel:Bel w wr
 res:aA wr w.heap.size 60 [.slice none 0 0,.bool false]
 bad:aA wr (w.heap.size+1) 60 [.slice none 0 0,.bool true]
 out:aA wr (w.heap.size+2) 60 [v,.bool false]
 row:TxR wr (w.heap.size+3) v ws
theorem WC.later {w wr wr':World} {v:Value} {ws:List ByteArray} (h:WC w wr v ws) (hb:Bel wr wr'):WC w wr' v ws:=⟨ae h.bel hb,h.res.later hb,h.bad.later hb,h.out.later hb,h.row.later hb⟩
theorem WC.exit {w wr:World} {v:Value} {ws:List ByteArray} (h:WC w wr v ws) (x:Value) (b:Bool):∃ we,we=wr.setCells w.heap.size 0 [x,.bool b]∧wr.there w.heap.size 0 (#[x,.bool b]:Array Value).size∧we.rangeAt w.heap.size 0 [x,.bool b]∧Hid (Bel w we)∧Hid (∀ v l,TxR wr (w.heap.size+3) v l→TxR we (w.heap.size+3) v l):=by
 have t:wr.there w.heap.size 0 (#[x,.bool b]:Array Value).size:=aX h.res.own _ _ (by simp);exact⟨_,rfl,t,World.rangeAt_setCells_same _ _ _ _ t,bW zE _ _ _ h.bel,fun v l h=>ps h (by omega) _⟩
theorem jZ (w:World) (l:List UInt8) (h:Pl.bo l 0=none) (we:World) (hb:Bel w we):Ans fK (nv l) w (.returned (.agg [.slice none 0 0,.bool true].toArray)) we:=by
 rw[nv,h];exact⟨[.slice none 0 0,.bool true],[],rfl,.emp _ _ none rfl (.b _ .nil),XL,by simp,hb⟩
theorem FZ (w:World) (l:List UInt8) (ws:List ByteArray) (v:Value) (h:Pl.bo l 0=some ws) (we:World) (hb:Bel w we) (hr:TxR we (w.heap.size+3) v ws):Ans fK (nv l) w (.returned (.agg [v,.bool false].toArray)) we:=by
 rw[nv,h];obtain⟨F,h1,h2,h3⟩:=hr.done;exact⟨[v,.bool false],F++[],rfl,h1.app (.b false .nil),by rw[Xl];exact h2,fun b gY=>by rw[Xl]at gY;have:=h3 b gY;omega,hb⟩
theorem WC.grown {w wr w1:World} {v:Value} {ws:List ByteArray} (h:WC w wr v ws) (hg:wr.grownBy w1 v.ownBlock):Bel w w1∧aA w1 (w.heap.size+2) 60 [v,.bool false]∧aA w1 w.heap.size 60 [.slice none 0 0,.bool false]∧aA w1 (w.heap.size+1) 60 [.slice none 0 0,.bool true]:=by
 have hn:∀ p,p<w.heap.size+3→v.ownBlock≠some p:=fun p hp e=>by have:=(aW h.row e).1;omega
 exact⟨h.row.below (lo:=w.heap.size+3) h.bel hg (by omega),h.out.grow hg (hn _ (by omega)),h.res.grow hg (hn _ (by omega)),h.bad.grow hg (hn _ (by omega))⟩
theorem WC.put {w w1:World} {v v':Value} {ws:List ByteArray} (hb:Bel w w1) (ho:aA w1 (w.heap.size+2) 60 [v,.bool false]) (hr:aA w1 w.heap.size 60 [.slice none 0 0,.bool false]) (hd:aA w1 (w.heap.size+1) 60 [.slice none 0 0,.bool true])
  (hx:TxR w1 (w.heap.size+3) v' ws):WC w (w1.setCell ⟨w.heap.size+2,0,none⟩ v') v' ws:=
 ⟨hb.setCell (p:=⟨w.heap.size+2,0,none⟩) (by show w.heap.size≤w.heap.size+2;omega) _,hr.other (by omega) _ _,hd.other (by omega) _ _,ho.set 0 v' (by simp),fV hx (Marks.sc (S:=fun b=>b=w.heap.size+2) w1 rfl 0 v') fun b hb e=>by omega⟩
theorem xW (s:ByteArray) (w:World) (hs:s.size≤1048576):
  Calls Tryz.prog 15 #[.string s] w (Ans fK (nv s.data.toList) w):=by
 obtain⟨wa,aP⟩:∃ wa,wa=((w.alloc (.cells #[.slice none 0 0,.bool false] 60)).alloc (.cells #[.slice none 0 0,.bool true] 60)).alloc (.cells #[.slice none 0 0,.bool false] 60):=⟨_,rfl⟩
 have H0:Hid (WC w wa (.slice none 0 0) []):=by
  show WC _ _ _ _;rw[aP];exact⟨af (af (af zR _) _) _,((aA.new w [.slice none 0 0,.bool false] 60 _ rfl).later (af zR _)).later (af zR _),(aA.new (w.alloc (.cells #[.slice none 0 0,.bool false] 60)) [.slice none 0 0,.bool true] 60 _ (by simp)).later (af zR _),aA.new _ [.slice none 0 0,.bool false] 60 _ (by simp),TxR.nil _ _⟩
 go_enter Tryz.func15,Tryz.ntmps15
 go_upto_region 3 with fail
 rw[← aP];clear aP;go_wp2;go_loopw [5] (fun i wr=>∃ (k:Nat) (v:Value) (ws:List ByteArray),k≤s.size∧i=.int .i64 k∧WC w wr v ws∧ws.length≤8∧Pl.bo s.data.toList 0=(Pl.bo (s.data.toList.drop k) ws.length).map (ws++·)) (fun i _=>s.size - (intOf i).toNat)
 case atStart=>exact⟨0,_,[],zN,rfl,H0.out,zN,by simp⟩
 case round=>
  obtain⟨k,v,ws,hk,rfl,WY,h8,hCU⟩:=hrel;have gX:=uh WY;have uP:=uh hCU;obtain⟨va,vc,hv⟩:=WY.row.shape;subst hv;clear WY hCU H0;by_cases bq:k<s.size
  rotate_left
  ·obtain rfl:k=s.size:=by omega
   have lP:Hid (Pl.bo s.data.toList 0=some ws):=by show _=_;rw[uP.out,Xz (by rw[Pl.aD];exact zE),Pl.bo];simp
   go_upto_region 26 with fail
   have lF:=gX.out.out.at_;have iO:=gX.out.out.own.lt;have qv:=gX.out.res.own.lt;obtain⟨we,aZ,bJ,dP,fm,kx⟩:=gX.out.exit (.slice va ws.length vc) false;go_wp2_with (first|(refine wpList_load_mid rfl 60 _ rfl (w.heap.size+2) 0 rfl _ _ lF Tryz.underlying60 rfl (by kernel_rfl) ?_)|(refine wpList_store_mid rfl 60 _ _ rfl w.heap.size 0 #[.slice va ws.length vc,.bool false] rfl rfl bJ (by kernel_rfl) (by simp[Value.oneCell']) ?_))
   first|rw[← aZ]|(simp only[Xi];rw[← aZ])
   try simp only[Act.put]
   refine bodyPost_ret (v:=.agg #[.slice va ws.length vc,.bool false]) (by simp[results,Tryz.results15,asAddr,run_loadVar_mid (P:=Tryz.prog) _ _ _ 60 [.slice va ws.length vc,.bool false] _ dP Tryz.underlying60 rfl (by kernel_rfl)]) rfl ?_;exact FZ w _ ws _ lP.out we fm.out (kx.out _ _ gX.out.row)
  rw[Pl.dB s k bq]at uP;by_cases c1:s[k].toNat=32
  ·have d1:((s[k].toNat:Int)==32)=true:=by simp;omega
   have nL:Hid (Pl.bo s.data.toList 0=(Pl.bo (s.data.toList.drop (k+1)) ws.length).map (ws++·)):=by show _=_;rw[uP.out,Pl.bo,if_pos c1]
   clear c1;go_wp2;go_roundw
   case rel=>exact⟨k+1,_,ws,by omega,by go_num,gX.out,h8,nL.out⟩
   case measure=>simp[intOf];omega
  have d1:((s[k].toNat:Int)==32)=false:=by simp;omega
  by_cases c2:s[k].toNat=35
  ·have d2:((s[k].toNat:Int)==35)=true:=by simp;omega
   have lP:Hid (Pl.bo s.data.toList 0=some ws):=by show _=_;rw[uP.out,Pl.bo,if_neg c1,if_pos c2];simp
   clear c1 c2;go_upto_region 15 with fail
   have lF:=gX.out.out.at_;have iO:=gX.out.out.own.lt;have qv:=gX.out.res.own.lt;obtain⟨we,aZ,bJ,dP,fm,kx⟩:=gX.out.exit (.slice va ws.length vc) false;go_wp2_with (first|(refine wpList_load_mid rfl 60 _ rfl (w.heap.size+2) 0 rfl _ _ lF Tryz.underlying60 rfl (by kernel_rfl) ?_)|(refine wpList_store_mid rfl 60 _ _ rfl w.heap.size 0 #[.slice va ws.length vc,.bool false] rfl rfl bJ (by kernel_rfl) (by simp[Value.oneCell']) ?_))
   first|rw[← aZ]|(simp only[Xi];rw[← aZ])
   try simp only[Act.put]
   refine bodyPost_ret (v:=.agg #[.slice va ws.length vc,.bool false]) (by simp[results,Tryz.results15,asAddr,run_loadVar_mid (P:=Tryz.prog) _ _ _ 60 [.slice va ws.length vc,.bool false] _ dP Tryz.underlying60 rfl (by kernel_rfl)]) rfl ?_;exact FZ w _ ws _ lP.out we fm.out (kx.out _ _ gX.out.row)
  have d2:((s[k].toNat:Int)==35)=false:=by simp;omega
  have nO:=uh (fun (h:Pl.fW s[k] (s.data.toList.drop (k+1))=none)=>Pl.QH (s.data.toList.drop (k+1)) s[k] ws.length c1 c2 h);have Ce:=uh (fun x n (h:Pl.fW s[k] (s.data.toList.drop (k+1))=some (x,n)) hb=>Pl.QB (s.data.toList.drop (k+1)) s[k] ws.length x n c1 c2 h hb);have HCY:=uh (fun x n (h:Pl.fW s[k] (s.data.toList.drop (k+1))=some (x,n)) hb=>Pl.QK (s.data.toList.drop (k+1)) s[k] ws.length x n c1 c2 h hb);by_cases c3:s[k].toNat=34
  focus
   have d3:((s[k].toNat:Int)==34)=true:=by simp;omega
   have IG:Hid (Pl.fW s[k] (s.data.toList.drop (k+1))=Pl.dz (s.data.toList.drop (k+1))):=by show _=_;rw[Pl.fW,if_pos c3]
   clear c1 c2 c3;have O7:(s.extract (k+1) s.size).size≤1048576:=by rw[Yb];omega
   have O8:=uh (fun W=>zq (s.extract (k+1) s.size) W O7);rw[Pl.j5]at O8;rcases IY:Pl.dz (s.data.toList.drop (k+1)) with _|⟨x,n⟩
   ·have lP:Hid (Pl.bo s.data.toList 0=none):=by show _=_;rw[uP.out,nO.out (by rw[IG.out,IY])];rfl
    rw[show Pl.ko (s.data.toList.drop (k+1))=([],0) by rw[Pl.ko,IY];rfl]at O8;clear IY O7;go_upto_region 19 with(go_at_call 36;refine(O8.out _).mono ?_;rintro e wr ⟨rfl,hb⟩)
    replace gX:=uh (gX.out.later hb)
    clear hb;have lF:=gX.out.bad.at_;have iO:=gX.out.bad.own.lt;have qv:=gX.out.res.own.lt;obtain⟨we,aZ,bJ,dP,fm,kx⟩:=gX.out.exit (.slice none 0 0) true;go_wp2_with (first|(refine wpList_load_mid rfl 60 _ rfl (w.heap.size+1) 0 rfl _ _ lF Tryz.underlying60 rfl (by kernel_rfl) ?_)|(refine wpList_store_mid rfl 60 _ _ rfl w.heap.size 0 #[.slice none 0 0,.bool true] rfl rfl bJ (by kernel_rfl) (by simp[Value.oneCell']) ?_))
    first|rw[← aZ]|(simp only[Xi];rw[← aZ])
    try simp only[Act.put]
    refine bodyPost_ret (v:=.agg #[.slice none 0 0,.bool true]) (by simp[results,Tryz.results15,asAddr,run_loadVar_mid (P:=Tryz.prog) _ _ _ 60 [.slice none 0 0,.bool true] _ dP Tryz.underlying60 rfl (by kernel_rfl)]) rfl ?_;exact jZ w _ lP.out we fm.out
   have hlen:=Pl.qV _ _ zE x n IY;rw[Pl.eF]at hlen;obtain⟨il,y9⟩:=hlen;rw[show Pl.ko (s.data.toList.drop (k+1))=(x,n) by rw[Pl.ko,IY];rfl]at O8;obtain⟨p,hp⟩:∃ p,p=k+1+n:=⟨_,rfl⟩
   obtain⟨X,hX⟩:∃ X:ByteArray,X=⟨x.toArray⟩:=⟨_,rfl⟩
   have Ex:Hid (X.size=x.length):=by show _=_;rw[hX];simp[ByteArray.size]
   have nJ:Hid ((Pl.behind (s.data.toList.drop p)&&decide (X.size≤200)&&decide (ws.length<8))=false→Pl.bo (s[k]::s.data.toList.drop (k+1)) ws.length=none):=fun h=>Ce.out x n (by rw[IG.out,IY]) (by rw[YS,← hp,← Ex.out];exact h);have Tt:Hid ((Pl.behind (s.data.toList.drop p)&&decide (X.size≤200)&&decide (ws.length<8))=true→Pl.bo (s[k]::s.data.toList.drop (k+1)) ws.length=(Pl.bo (s.data.toList.drop p) (ws.length+1)).map (X::·)):=fun h=>by
    have:=HCY.out x n (by rw[IG.out,IY]) (by rw[YS,← hp,← Ex.out];exact h);rw[YS,← hp,← hX]at this;exact this
   rw[← hX]at O8;have HPK:Hid (k<p):=by show k<p;omega
   have e1:IntKind.i64.wrap ((k:Int)+1)=(k:Int)+1:=IntWalk.i64_in _ ⟨by omega,by omega⟩;have e2:IntKind.i64.wrap ((k:Int)+1+(n:Int))=(p:Int):=by rw[IntWalk.i64_in _ ⟨by omega,by omega⟩];omega
   have e3:((n:Int)==0)=false:=by simp;omega
   have R9:p≤s.size:=by omega
   clear IY O7 il y9 hp hX;go_upto_region 22 with(go_at_call 36;refine(O8.out _).mono ?_;rintro e wr ⟨rfl,hb⟩)
   replace gX:=uh (gX.out.later hb)
   clear hb e1 e2 e3 O8 d1 d2 d3
  rotate_left
  focus
   have d3:((s[k].toNat:Int)==34)=false:=by simp;omega
   go_upto_region 6 with fail
   go_wp2;go_loop [7] (fun v=>∃ p:Nat,k≤p∧p≤s.size∧v=.int .i64 p∧∀ i (hi:i<s.size),k≤i→i<p→Pl.ck s[i]=true) (fun v=>s.size - (intOf v).toNat)
   case atStart=>exact⟨k,zE,by omega,rfl,fun i hi h1 h2=>by omega⟩
   case' round=>
    obtain⟨p,hkp,R9,rfl,bA⟩:=hrel;have tp:Hid (∀ i (hi:i<s.size),k≤i→i<p→Pl.ck s[i]=true):=bA;clear bA;by_cases qw:∃ h:p<s.size,Pl.ck s[p]=true
    ·obtain⟨h,dG⟩:=qw;go_wp2_with (go_at_call 37;refine(iY _ _).mono ?_;rintro e w' ⟨rfl,rfl⟩)
     go_round
     case rel=>exact⟨p+1,by omega,by omega,by go_num,fun i hi h1 h2=>by
      by_cases e:i=p
      ·subst e;exact dG
      ·exact tp.out i hi h1 (by omega)⟩
     case measure=>simp[intOf];omega
    have eU:Hid (∀ h:p<s.size,Pl.ck s[p]=false):=fun h=>by
     cases e:Pl.ck s[p]
     ·rfl
     ·exact absurd ⟨h,e⟩ qw
    clear qw;have OZ:=uh (fun h=>Pl.Nr s k bq c3 h);have kt:=uh (fun h=>Pl.QP s k p bq c3 h R9 tp.out eU.out);have g1:(p:Int)≤(s.size:Int):=by omega
    have g2:(k:Int)≤(p:Int):=by omega
    clear c1 c2 c3;by_cases hpk:k<p
    rotate_left
    ·obtain rfl:p=k:=by omega
     have MN:=eU.out bq;have lP:Hid (Pl.bo s.data.toList 0=none):=by show _=_;rw[uP.out,nO.out (OZ.out MN)];rfl
     go_upto_region 11 with(go_at_call 37;refine(iY _ _).mono ?_;rintro e w' ⟨rfl,rfl⟩)
     clear MN g1 g2;have lF:=gX.out.bad.at_;have iO:=gX.out.bad.own.lt;have qv:=gX.out.res.own.lt;obtain⟨we,aZ,bJ,dP,fm,kx⟩:=gX.out.exit (.slice none 0 0) true;go_wp2_with (first|(refine wpList_load_mid rfl 60 _ rfl (w.heap.size+1) 0 rfl _ _ lF Tryz.underlying60 rfl (by kernel_rfl) ?_)|(refine wpList_store_mid rfl 60 _ _ rfl w.heap.size 0 #[.slice none 0 0,.bool true] rfl rfl bJ (by kernel_rfl) (by simp[Value.oneCell']) ?_))
     first|rw[← aZ]|(simp only[Xi];rw[← aZ])
     try simp only[Act.put]
     refine bodyPost_ret (v:=.agg #[.slice none 0 0,.bool true]) (by simp[results,Tryz.results15,asAddr,run_loadVar_mid (P:=Tryz.prog) _ _ _ 60 [.slice none 0 0,.bool true] _ dP Tryz.underlying60 rfl (by kernel_rfl)]) rfl ?_;exact jZ w _ lP.out we fm.out
    obtain⟨X,hX⟩:∃ X:ByteArray,X=s.extract k p:=⟨_,rfl⟩
    have iO:X.data.toList.length=p - k:=by rw[hX,Pl.eW,Xo,Pl.eF];omega
    have Ex:Hid (X.size=X.data.toList.length):=by show _=_;rw[Pl.aD]
    have lZ:(s.data.toList.drop (k+1)).drop (p - k - 1)=s.data.toList.drop p:=by rw[YS];congr 1;omega
    have nJ:Hid ((Pl.behind (s.data.toList.drop p)&&decide (X.size≤200)&&decide (ws.length<8))=false→Pl.bo (s[k]::s.data.toList.drop (k+1)) ws.length=none):=fun h=>Ce.out X.data.toList (p - k - 1) (by rw[hX];exact kt.out hpk) (by rw[lZ,← Ex.out];exact h);have Tt:Hid ((Pl.behind (s.data.toList.drop p)&&decide (X.size≤200)&&decide (ws.length<8))=true→Pl.bo (s[k]::s.data.toList.drop (k+1)) ws.length=(Pl.bo (s.data.toList.drop p) (ws.length+1)).map (X::·)):=fun h=>by
     have:=HCY.out X.data.toList (p - k - 1) (by rw[hX];exact kt.out hpk) (by rw[lZ,← Ex.out];exact h);rw[lZ,Pl.back]at this;exact this
    have HPK:=uh hpk;have dr:((p:Int)==(k:Int))=false:=by simp;omega
    have Qg:s.extract k p=X:=hX.symm;clear hX iO lZ;by_cases Rr:p<s.size
    focus
     have MN:=eU.out Rr;obtain⟨bp,hbp⟩:∃ b,b=s[p]:=⟨_,rfl⟩
     have lE:s[p]=bp:=hbp.symm;rw[lE]at MN;clear hbp;go_upto_region 22 with(go_at_call 37;refine(iY _ _).mono ?_;rintro e w' ⟨rfl,rfl⟩)
     clear MN lE g1 g2 dr Qg d1 d2 d3 tp eU kt OZ Rr
    rotate_left
    focus
     go_upto_region 22 with fail
     clear g1 g2 dr Qg d1 d2 d3 tp eU kt OZ Rr
  all_goals
   by_cases hA:Pl.behind (s.data.toList.drop p)=true
   rotate_left
   ·have lP:Hid (Pl.bo s.data.toList 0=none):=by show _=_;rw[uP.out,nJ.out (by simp[hA])];rfl
    have LI:p<s.size:=by
     rcases YB p s.size with h|h
     ·exact h
     ·exact absurd (by rw[Xz (by rw[Pl.aD];exact h)];rfl) hA
    rw[Pl.dB s p LI]at hA;have f1:((s[p].toNat:Int) !=32)=true:=by simp[Pl.behind]at hA;simp;omega
    have f2:((s[p].toNat:Int) !=35)=true:=by simp[Pl.behind]at hA;simp;omega
    clear hA;go_upto_region 23 with fail
    clear f1 f2;have lF:=gX.out.bad.at_;have iO:=gX.out.bad.own.lt;have qv:=gX.out.res.own.lt;obtain⟨we,aZ,bJ,dP,fm,kx⟩:=gX.out.exit (.slice none 0 0) true;go_wp2_with (first|(refine wpList_load_mid rfl 60 _ rfl (w.heap.size+1) 0 rfl _ _ lF Tryz.underlying60 rfl (by kernel_rfl) ?_)|(refine wpList_store_mid rfl 60 _ _ rfl w.heap.size 0 #[.slice none 0 0,.bool true] rfl rfl bJ (by kernel_rfl) (by simp[Value.oneCell']) ?_))
    first|rw[← aZ]|(simp only[Xi];rw[← aZ])
    try simp only[Act.put]
    refine bodyPost_ret (v:=.agg #[.slice none 0 0,.bool true]) (by simp[results,Tryz.results15,asAddr,run_loadVar_mid (P:=Tryz.prog) _ _ _ 60 [.slice none 0 0,.bool true] _ dP Tryz.underlying60 rfl (by kernel_rfl)]) rfl ?_;exact jZ w _ lP.out we fm.out
   have hA3:(¬ (p:Int)<(s.size:Int))∨(∃ h:p<s.size,(((s[p].toNat:Int) !=32)=false))∨(∃ h:p<s.size,(((s[p].toNat:Int) !=32)=true)∧(((s[p].toNat:Int) !=35)=false)):=by
    by_cases h:p<s.size
    ·rw[Pl.dB s p h]at hA;simp[Pl.behind]at hA;by_cases h2:s[p].toNat=32
     ·exact Xk (No ⟨h,by simp;omega⟩)
     ·exact Xk (Xk ⟨h,by simp;omega,by simp;omega⟩)
    ·exact No (by omega)
   rcases hA3 with f0|⟨f0,f1⟩|⟨f0,f1,f2⟩
   all_goals
    by_cases hB:(200:Int)<(X.size:Int)
    ·have lP:Hid (Pl.bo s.data.toList 0=none):=by show _=_;rw[uP.out,nJ.out (by have:=Ex.out;simp;omega)];rfl
     go_upto_region 23 with fail
     clear hB;have lF:=gX.out.bad.at_;have iO:=gX.out.bad.own.lt;have qv:=gX.out.res.own.lt;obtain⟨we,aZ,bJ,dP,fm,kx⟩:=gX.out.exit (.slice none 0 0) true;go_wp2_with (first|(refine wpList_load_mid rfl 60 _ rfl (w.heap.size+1) 0 rfl _ _ lF Tryz.underlying60 rfl (by kernel_rfl) ?_)|(refine wpList_store_mid rfl 60 _ _ rfl w.heap.size 0 #[.slice none 0 0,.bool true] rfl rfl bJ (by kernel_rfl) (by simp[Value.oneCell']) ?_))
     first|rw[← aZ]|(simp only[Xi];rw[← aZ])
     try simp only[Act.put]
     refine bodyPost_ret (v:=.agg #[.slice none 0 0,.bool true]) (by simp[results,Tryz.results15,asAddr,run_loadVar_mid (P:=Tryz.prog) _ _ _ 60 [.slice none 0 0,.bool true] _ dP Tryz.underlying60 rfl (by kernel_rfl)]) rfl ?_;exact jZ w _ lP.out we fm.out
    have Ed:=gX.out.out.get 0 _ rfl;have R7:=gX.out.out.own.lt;by_cases hC:(8:Int)≤(ws.length:Int)
    ·have lP:Hid (Pl.bo s.data.toList 0=none):=by show _=_;rw[uP.out,nJ.out (by simp;omega)];rfl
     go_upto_region 23 with fail
     clear hB hC Ed R7;have lF:=gX.out.bad.at_;have iO:=gX.out.bad.own.lt;have qv:=gX.out.res.own.lt;obtain⟨we,aZ,bJ,dP,fm,kx⟩:=gX.out.exit (.slice none 0 0) true;go_wp2_with (first|(refine wpList_load_mid rfl 60 _ rfl (w.heap.size+1) 0 rfl _ _ lF Tryz.underlying60 rfl (by kernel_rfl) ?_)|(refine wpList_store_mid rfl 60 _ _ rfl w.heap.size 0 #[.slice none 0 0,.bool true] rfl rfl bJ (by kernel_rfl) (by simp[Value.oneCell']) ?_))
     first|rw[← aZ]|(simp only[Xi];rw[← aZ])
     try simp only[Act.put]
     refine bodyPost_ret (v:=.agg #[.slice none 0 0,.bool true]) (by simp[results,Tryz.results15,asAddr,run_loadVar_mid (P:=Tryz.prog) _ _ _ 60 [.slice none 0 0,.bool true] _ dP Tryz.underlying60 rfl (by kernel_rfl)]) rfl ?_;exact jZ w _ lP.out we fm.out
    have nL:Hid (Pl.bo s.data.toList 0=(Pl.bo (s.data.toList.drop p) (ws++[X]).length).map ((ws++[X])++·)):=Pl.QJ uP.out (Tt.out (by have:=Ex.out;simp[hA];omega));have VG:=gX.out.out.own.frozen;have hC8:ws.length<8:=by omega
    clear hA;go_upto_region 24 with fail
    clear hB hC;go_wp2_with (refine qj rfl _ _ rfl (w.heap.size+3) (.slice va ws.length vc) ws rfl (gX.out.row.later (af zR _)) wr.heap.size 1 1 [X] rfl rfl (World.news_of_block (cs:=#[.string X]) (heap_alloc_new wr _)) (by decide) (by omega) (by have:=gX.out.out.own.lt;simp;omega) ?_;intro gg1 PW w1 q1 q2;have HQ:=uh (Xt q1 q2);have gZ:=uh (WC.grown (gX.out.later (af zR _)) q2);have hout2:=gZ.out.2.1.get 0 _ rfl;have houl2:=gZ.out.2.1.own.lt;have hofz2:=gZ.out.2.1.own.frozen;clear q1 q2 Ed R7 VG)
    go_roundw
    case rel=>exact⟨p,_,ws++[X],by omega,rfl,WC.put gZ.out.1 gZ.out.2.1 gZ.out.2.2.1 gZ.out.2.2.2 HQ.out.1,by rw[At];simp;omega,nL.out⟩
    case measure=>simp[intOf];have:=HPK.out;omega
end Go.Proofs.YtgiglpnaekbegaaGreatDoor
