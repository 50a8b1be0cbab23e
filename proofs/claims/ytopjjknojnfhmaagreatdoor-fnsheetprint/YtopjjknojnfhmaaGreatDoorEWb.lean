import Derived.Test.YtopjjknojnfhmaaGreatDoorEBy
namespace Go.Proofs.YtopjjknojnfhmaaGreatDoor
set_option maxRecDepth 8000
set_option maxHeartbeats 40000000
open Go.RowKit Go.Deep
theorem rH (z:Int) (h0:0≤z) (h1:z≤255):IntKind.u8.wrap z=z:=by
 simp[IntKind.wrap,IntKind.bits,IntKind.signed];omega
def VEw (va:Value) (dx s:ByteArray) (k q r:Nat) (b:UInt8) (jj:Nat) (u:Value) (W:World):Prop:=match jj with
 |0=>u=va
 |1|7=>u=.string dx
 |2|8=>u=.string s
 |3|9=>u=.int .i64 (k:Int)
 |4|10=>u=.int .u8 (b.toNat:Int)
 |5=>u=.int .u8 (q:Int)
 |6=>u=.int .u8 ((Pl.dd q).toNat:Int)
 |11=>u=.int .u8 (r:Int)
 |12=>u=.int .u8 ((Pl.dd r).toNat:Int)
 |13=>∃ B,u=.slice (some ⟨B,0,none⟩) 3 3∧W.heap[B]? =some (.cells #[.int .u8 92,.int .u8 ((Pl.dd q).toNat:Int),.int .u8 ((Pl.dd r).toNat:Int)] 5 (0,0))
 |_=>True
theorem Dd (va:Value) (dx s:ByteArray) (k q r:Nat) (b:UInt8):∀ j u W W',Bel W W'→VEw va dx s k q r b j u W→VEw va dx s k q r b j u W':=by
 intro j u W W' hb h;match j with
 |0|1|2|3|4|5|6|7|8|9|10|11|12=>exact h
 |13=>
  obtain⟨B,e,hB⟩:=h;exact⟨B,e,(hb.block B (Array.getElem?_eq_some_iff.1 hB).1).trans hB⟩
 |n+14=>exact trivial
theorem xx (s:ByteArray) (w:World) (hs:s.size≤1048576):
  Calls Tryz.prog 40 #[.string s] w fun e w'=>e=.returned (.string (Pl.bY s))∧Bel w w':=by
 have hl:s.data.toList.length=s.size:=Pl.aD s;have HL:=uh hl;clear hl;go_enter Tryz.func40,Tryz.ntmps40
 go_wp2;go_loop [3,4] (fun b i=>∃ k:Nat,k≤s.size∧i=.int .i64 k∧b=.bool (decide ((0:Int)<(s.size:Int))&&(s.data.toList.take k).all Pl.bx)) (fun _ i=>s.size - (intOf i).toNat)
 case atStart=>exact⟨0,zN,rfl,by simp⟩
 case round=>
  obtain⟨k,hk,rfl,rfl⟩:=hrel;obtain⟨B,hB⟩:∃ B,B=(decide ((0:Int)<(s.size:Int))&&(s.data.toList.take k).all Pl.bx):=⟨_,rfl⟩
  rw[← hB];have HB:=uh hB;clear hB;by_cases bd:k<s.size
  ·have HS:Hid ((decide ((0:Int)<(s.size:Int))&&(s.data.toList.take (k+1)).all Pl.bx)=(B&&Pl.bx s[k])):=by
    show _=_;rw[Pl.iz _ _ _ bd,HB.out,Bool.and_assoc]
   clear HB;obtain⟨c,hc⟩:∃ c,c=Pl.bx s[k]:=⟨_,rfl⟩
   rw[← hc]at HS;have HC:Hid (∀ w,Calls Tryz.prog 69 #[.int .u8 s[k].toNat] w fun e w'=>e=.returned (.bool c)∧w=w'):=by
    rw[hc];exact fun w=>vA _ w
   clear hc;cases B
   ·go_wp2;go_round
    case rel=>exact⟨k+1,by omega,by go_num,by rw[HS.out];rfl⟩
    case measure=>simp[intOf];omega
   ·go_wp2_with (go_at_call 69;refine(HC.out _).mono ?_;rintro e w' ⟨rfl,rfl⟩)
    go_round
    case rel=>exact⟨k+1,by omega,by go_num,by rw[HS.out];simp⟩
    case measure=>simp[intOf];omega
  ·obtain rfl:k=s.size:=by omega
   have HE:Hid (Pl.iu s.data.toList=B):=by
    show _=_;rw[HB.out,Pl.iu,Pl.mh _ _ _ zE,HL.out];congr 1;rw[Bool.eq_iff_iff];simp
   clear HB bd hk;cases B
   rotate_left
   ·have HW:Hid (s=Pl.bY s):=by show _=_;rw[Pl.bY,Pl.de,if_pos HE.out,Pl.back]
    go_wp2;go_ret;exact⟨Pl.eo HW.out,zR⟩
   go_wp2;go_loopw [5,7] (fun v i wr=>∃ k:Nat,k≤s.size∧i=.int .i64 k∧By wr w.heap.size v (34::(s.data.toList.take k).flatMap Pl.cq)∧Bel w wr) (fun _ i _=>s.size - (intOf i).toNat)
   case atStart=>exact⟨0,zN,rfl,By.made w w.heap.size 34 zE,ae zR _⟩
   case round=>
    rename_i v _ _
    obtain⟨k,hk,rfl,hO,hW⟩:=hrel;have hle:((s.data.toList.take k).flatMap Pl.cq).length≤3*k:=by
     have:=Pl.nY (s.data.toList.take k);rw[List.length_take]at this;omega
    by_cases bd:k<s.size
    ·have HS:Hid (34::(s.data.toList.take (k+1)).flatMap Pl.cq=(34::(s.data.toList.take k).flatMap Pl.cq)++Pl.cq s[k]):=by
      show _=_;rw[Pl.jO s k bd];simp
     obtain⟨L,hL⟩:∃ L,L=34::(s.data.toList.take k).flatMap Pl.cq:=⟨_,rfl⟩
     have fJ:L.length≤3*k+1:=by rw[hL,List.length_cons];omega
     rw[← hL]at HS hO;clear hL hle;have jI:=uh fJ;have HO:=uh hO;have HW:=uh hW;obtain⟨sa,sc,hv⟩:=hO.shape;subst hv;clear hO hW fJ;obtain⟨b,hb⟩:∃ b,b=s[k]:=⟨_,rfl⟩
     have nM:=Pl.vP b;have lL:s[k]=b:=hb.symm;clear hb;rw[lL]at HS;cases hsf:Pl.eC b
     ·have HE:Hid (Pl.cq b=[92,Pl.dd (b.toNat / 16),Pl.dd (b.toNat % 16)]):=by show _=_;rw[Pl.cq,hsf];rfl
      obtain⟨q,hq⟩:∃ q,q=b.toNat / 16:=⟨_,rfl⟩
      obtain⟨r,hr⟩:∃ r,r=b.toNat % 16:=⟨_,rfl⟩
      rw[← hq,← hr]at HE;have yC:IntKind.u8.wrap ((b.toNat:Int) / 16)=(q:Int):=by rw[rH _ (by omega) (by omega)];omega
      have oM:(b.toNat:Int).tmod 16=(r:Int):=by rw[Int.tmod_eq_emod_of_nonneg (by omega)];omega
      have BV:q<16:=by omega
      have mF:r<16:=by omega
      have HQ:=uh BV;have HR:=uh mF;have mO:Hid (∀ w,_):=fun w=>sL q BV w;have fL:Hid (∀ w,_):=fun w=>sL r mF w;have FP:=uh yC;have iL:=uh oM;have Ob:=uh lL;clear hq hr BV mF yC oM;have iE:(¬ (32:Int)≤(b.toNat:Int))∨((32:Int)≤(b.toNat:Int)∧¬ (b.toNat:Int)≤126)∨((32:Int)≤(b.toNat:Int)∧(b.toNat:Int)≤126∧((b.toNat:Int) !=34)=false)∨((32:Int)≤(b.toNat:Int)∧(b.toNat:Int)≤126∧((b.toNat:Int) !=34)=true∧((b.toNat:Int) !=92)=false):=by
       simp[Pl.eC]at hsf;simp;omega
      clear hsf;rcases iE with h1|⟨h1,h2⟩|⟨h1,h2,h3⟩|⟨h1,h2,h3,h4⟩
      all_goals
       go_upto_region 15 with fail
       refine RY.kF wr zR (VEw (.slice sa L.length sc) ⟨#[48,49,50,51,52,53,54,55,56,57,97,98,99,100,101,102]⟩ s k q r b) (Dd _ _ _ _ _ _ _) (fun u W'=>∃ g cap,u=.slice (some ⟨g,0,none⟩) (L.length+3) cap∧By W' w.heap.size u (L++[92,Pl.dd q,Pl.dd r])∧Bel w W') 14 12 75 5 (by kernel_rfl) (by kernel_rfl) (by kernel_rfl) (by kernel_rfl) (by kernel_rfl) rfl (by kernel_rfl) _ _ rfl rfl rfl rfl rfl (by kernel_rfl) ?_ ?_ ?_
       ·intro i o' ho gG a X hX hk hd;match i,ho with
        |0,rfl=>
         have e5:a.tmps[5]?.getD undef=.slice sa L.length sc:=(RY.af a 5).trans ((hk 5 (RY.ee (by kernel_rfl))).trans rfl);exact⟨.slice sa L.length sc,X,by simp[execOp,go_sem,e5],zR,rfl⟩
        |1,rfl|7,rfl=>
         have e6:a.tmps[6]?.getD undef=.string ⟨#[48,49,50,51,52,53,54,55,56,57,97,98,99,100,101,102]⟩:=(RY.af a 6).trans ((hk 6 (RY.ee (by kernel_rfl))).trans rfl);exact⟨.string ⟨#[48,49,50,51,52,53,54,55,56,57,97,98,99,100,101,102]⟩,X,by simp[execOp,go_sem,e6],zR,rfl⟩
        |2,rfl|8,rfl=>
         have e0:a.tmps[0]?.getD undef=.string s:=(RY.af a 0).trans ((hk 0 (RY.ee (by kernel_rfl))).trans rfl);exact⟨.string s,X,by simp[execOp,go_sem,e0],zR,rfl⟩
        |3,rfl|9,rfl=>
         have e7:a.tmps[7]?.getD undef=.int .i64 (k:Int):=(RY.af a 7).trans ((hk 7 (RY.ee (by kernel_rfl))).trans rfl);exact⟨.int .i64 (k:Int),X,by simp[execOp,go_sem,e7],zR,rfl⟩
        |4,rfl=>
         exact⟨.int .u8 (b.toNat:Int),X,by simp[execOp,go_sem,RY.E1 hd 2 63,RY.E1 hd 3 64,bd,Ob.out],zR,rfl⟩
        |5,rfl=>
         exact⟨.int .u8 (q:Int),X,by simp[execOp,go_sem,RY.E1 hd 4 65,FP.out],zR,rfl⟩
        |6,rfl=>
         exact⟨.int .u8 ((Pl.dd q).toNat:Int),X,by simp[execOp,go_sem,RY.E1 hd 1 62,RY.E1 hd 5 66,mO.out X],zR,rfl⟩
        |10,rfl=>
         exact⟨.int .u8 (b.toNat:Int),X,by simp[execOp,go_sem,RY.E1 hd 8 69,RY.E1 hd 9 70,bd,Ob.out],zR,rfl⟩
        |11,rfl=>
         exact⟨.int .u8 (r:Int),X,by simp[execOp,go_sem,RY.E1 hd 10 71,iL.out],zR,rfl⟩
        |12,rfl=>
         exact⟨.int .u8 ((Pl.dd r).toNat:Int),X,by simp[execOp,go_sem,RY.E1 hd 7 68,RY.E1 hd 11 72,fL.out X],zR,rfl⟩
        |13,rfl=>
         have e67:=(RY.af a 67).trans (hd 6 _ 67 rfl rfl ⟨⟨6,.data⟩,by simp,rfl,rfl⟩ (by decide));have e73:=(RY.af a 73).trans (hd 12 _ 73 rfl rfl ⟨⟨12,.data⟩,by simp,rfl,rfl⟩ (by decide));exact⟨.slice (some ⟨X.heap.size,0,none⟩) 3 3,X.alloc (.cells #[.int .u8 92,.int .u8 ((Pl.dd q).toNat:Int),.int .u8 ((Pl.dd r).toNat:Int)] 5),by simp[execOp,go_sem,e67,e73],ae zR _,X.heap.size,rfl,heap_alloc_new X _⟩
        |n+14,ho=>omega
       ·intro a X hX hk hd;have e61:=hd 0 _ 61 rfl rfl ⟨⟨0,.data⟩,by simp,rfl,rfl⟩ (by decide);obtain⟨B,e74,hB⟩:=hd 13 _ 74 rfl rfl ⟨⟨13,.data⟩,by simp,rfl,rfl⟩ (by decide);have NZ:=HO.out.later hX;obtain⟨g,cap,X',hr,bJ,eD⟩:=Ek NZ 22 B 3 3 [92,Pl.dd q,Pl.dd r] rfl _ rfl hB (by decide) (by have:=jI.out;omega) (Nat.le_trans HW.out.size hX.size);exact⟨_,X',aQ (.tmp 61) (.tmp 74) 22 rfl e61 e74 hr,g,cap,rfl,bJ,NZ.below (ah HW.out hX) eD zE⟩
       ·rintro vals X hK e2;simp only[RY.aC,Act.put,List.setIfInBounds_toArray,List.set_cons_zero,List.set_cons_succ];rw[e2];generalize vals 61=s61;generalize vals 62=s62;generalize vals 63=s63;generalize vals 64=s64;generalize vals 65=s65;generalize vals 66=s66;generalize vals 67=s67;generalize vals 68=s68;generalize vals 69=s69;generalize vals 70=s70;generalize vals 71=s71;generalize vals 72=s72;generalize vals 73=s73;generalize vals 74=s74;obtain⟨g,cap,e1,hg,hb⟩:=hK;rw[e1]at hg ⊢;have HN:=uh (And.intro hg hb);clear hg hb e1 e2 HO HW;go_wp2;go_roundw
        case rel=>exact⟨k+1,by omega,by go_num,by rw[HS.out,HE.out];exact HN.out.1,HN.out.2⟩
        case measure=>simp[intOf];omega
     ·have HE:Hid (Pl.cq b=[b]):=by show _=_;rw[Pl.cq,hsf];rfl
      have h1:(32:Int)≤(b.toNat:Int):=by simp[Pl.eC]at hsf;omega
      have h2:(b.toNat:Int)≤126:=by simp[Pl.eC]at hsf;omega
      have h3:((b.toNat:Int) !=34)=true:=by simp[Pl.eC]at hsf;simp;omega
      have h4:((b.toNat:Int) !=92)=true:=by simp[Pl.eC]at hsf;simp;omega
      go_wp2_with (refine k6 rfl _ _ rfl w.heap.size (.slice sa L.length sc) L rfl (HO.out.later (ae zR _)) wr.heap.size 1 1 [b] rfl rfl (World.news_of_block (cs:=#[.int .u8 (b.toNat:Int)]) (heap_alloc_new wr _)) (by decide) (by have:=jI.out;omega) (by have:=HW.out.size;simp;omega) ?_;intro g1 c1 w1 q1 q2)
      go_roundw
      case rel=>exact⟨k+1,by omega,by go_num,by rw[HS.out,HE.out];exact q1,(HO.out.later (ae zR _)).below (ae HW.out _) q2 zE⟩
      case measure=>simp[intOf];omega
    ·obtain rfl:k=s.size:=by omega
     have PV:s.data.toList.take s.size=s.data.toList:=List.take_of_length_le (by rw[HL.out];exact zE);rw[PV]at hO hle;obtain⟨L,hL⟩:∃ L,L=34::s.data.toList.flatMap Pl.cq:=⟨_,rfl⟩
     have zy:Hid ((⟨(L++[34]).toArray⟩:ByteArray)=Pl.bY s):=by
      show _=_;rw[Pl.bY,Pl.de,if_neg (by rw[HE.out];decide),hL];rfl
     have fJ:L.length≤3*s.size+1:=by rw[hL,List.length_cons];omega
     rw[← hL]at hO;clear hL hle PV;have jI:=uh fJ;have HO:=uh hO;have HW:=uh hW;obtain⟨sa,sc,hv⟩:=hO.shape;subst hv;clear hO hW fJ bd;go_wp2_with (refine k6 rfl _ _ rfl w.heap.size (.slice sa L.length sc) L rfl (HO.out.later (ae zR _)) wr.heap.size 1 1 [34] rfl rfl (World.news_of_block (cs:=#[.int .u8 34]) (heap_alloc_new wr _)) (by decide) (by have:=jI.out;omega) (by have:=HW.out.size;simp;omega) ?_;intro g1 c1 w1 q1 q2;have Ie:=q1.str (by simp);have HQ:=uh (And.intro q1 q2);clear q1 q2)
     go_ret;exact⟨Pl.eo zy.out,(HO.out.later (ae zR _)).below (ae HW.out _) HQ.out.2 zE⟩
end Go.Proofs.YtopjjknojnfhmaaGreatDoor
