import Derived.Test.YtopjjknojnfhmaaGreatDoorESd
import Derived.Test.YtopjjknojnfhmaaGreatDoorEPp
namespace Go.Proofs.YtopjjknojnfhmaaGreatDoor
set_option maxRecDepth 8000
set_option maxHeartbeats 40000000
open Go.RowKit Go.Deep
theorem Tryz.cI:Tryz.prog.underlying 39=some (.slice 46):=by kernel_rfl
theorem Tryz.jQ:(Tryz.prog.info? 46).map (fun i=>(i.zero,i.size,i.bytes))=some (some (.agg #[.string {data:=#[]},.slice none 0 0]),2,40):=by kernel_rfl
def VCl (vo vl:Value) (b p o k:Nat) (x:Pl.Ln) (aw:Option Addr) (cw:Nat) (jj:Nat) (u:Value) (W:World):Prop:=match jj with
 |0=>u=vo
 |1|7=>u=vl
 |2|8=>u=.int .i64 (k:Int)
 |3|4|9=>u=.pointer (some ⟨p,o+k*2,none⟩)
 |5=>u=.string x.key
 |6=>∃ g,u=.slice (some ⟨g,0,none⟩) 0 0∧b≤g∧W.heap[g]? =some (.cells #[] 9 (0,0))
 |10=>u=.pointer (some ⟨p,o+k*2+1,none⟩)
 |11=>u=.slice aw x.ws.length cw
 |12=>∃ wx wc xs,u=.slice wx x.ws.length wc∧Gr W b 9 [.s] (.slice wx x.ws.length wc) x.ws.length [] (txD x.ws) xs
 |13=>∃ wx wc xs,u=.agg #[.string x.key,.slice wx x.ws.length wc]∧Gr W b 9 [.s] (.slice wx x.ws.length wc) x.ws.length [] (txD x.ws) xs
 |14=>∃ q wx wc xs,u=.slice (some ⟨q,0,none⟩) 1 1∧W.heap[q]? =some (.cells #[.string x.key,.slice wx x.ws.length wc] 46 (0,0))∧Gr W b 9 [.s] (.slice wx x.ws.length wc) x.ws.length [] (txD x.ws) xs
 |_=>True
theorem DM (vo vl:Value) (b p o k:Nat) (x:Pl.Ln) (aw:Option Addr) (cw:Nat):∀ j u W W',Bel W W'→VCl vo vl b p o k x aw cw j u W→VCl vo vl b p o k x aw cw j u W':=by
 intro j u W W' hb h;match j with
 |0|1|2|3|4|5|7|8|9|10|11=>exact h
 |6=>
  obtain⟨g,e,hg,hc⟩:=h;exact⟨g,e,hg,(hb.block g (Array.getElem?_eq_some_iff.1 hc).1).trans hc⟩
 |12|13=>
  obtain⟨wx,wc,xs,e,hg⟩:=h;exact⟨wx,wc,xs,e,hg.later hb⟩
 |14=>
  obtain⟨q,wx,wc,xs,e,hc,hg⟩:=h;exact⟨q,wx,wc,xs,e,(hb.block q (Array.getElem?_eq_some_iff.1 hc).1).trans hc,hg.later hb⟩
 |n+15=>exact trivial
theorem AA (l:List Pl.Ln) (v:Value) (w:World) (h:Raw w bF [bT l] [v]) (hl:l.length≤4194304) (hw:∀ x∈l,x.ws.length≤4194304):
  Calls Tryz.prog 107 #[v] w (qC bF (bT l) w):=by
 obtain⟨i0,gF,ga,dJ,gH⟩:=ji Tryz.jQ;have HL:=uh h;have QD:=uh hw;obtain⟨va,vc,ev⟩:=h.bm;subst ev;clear h hw;obtain⟨n,hn⟩:∃ n,n=l.length:=⟨_,rfl⟩
 have HN:=uh hn;have B5:n≤4194304:=by omega
 rw[← hn];clear hn hl;obtain⟨wa,aZ⟩:∃ wa,wa=w:=⟨_,rfl⟩
 go_enter Tryz.func107,Tryz.ntmps107
 rw[← aZ];rw[← aZ]at HL;clear aZ;go_wp2;go_loopw [3,4] (fun vo vi wr=>∃ (k:Nat) (G:List Nat) (xs:List Value),k≤n∧vi=.int .i64 k∧Gr wr wa.heap.size 46 aA vo k G ((l.take k).flatMap lnD) xs∧Bel wa wr) (fun _ vi _=>n - (intOf vi).toNat)
 case atStart=>exact⟨0,[],[],zN,rfl,Gr.emp aA (heap_alloc_new wa _) zE,ae zR _⟩
 case round=>
  obtain⟨k,G,xs,hk,rfl,hG,hB⟩:=hrel;have EN:=uh hG;have M1:=uh hB;obtain⟨ua,uc,Re⟩:=hG.shape;subst Re;clear hG hB;by_cases bd:k<n
  rotate_left
  ·have zu:l.take k=l:=List.take_of_length_le (by have:=HN.out;omega);obtain rfl:k=l.length:=by have:=HN.out;omega
   rw[zu]at EN;obtain⟨F,r,nd,fr⟩:=EN.out.done;have HD:Hid (qC bF (bT l) wa (.returned (.slice ua l.length uc)) wr):=⟨_,F,rfl,r,nd,fr,M1.out⟩
   clear r nd fr zu;go_wp2;go_ret;exact HD.out
  have iF:k<l.length:=by have:=HN.out;omega
  rcases cE (HL.out.later M1.out) with⟨e0,_⟩|⟨p,o,c,hv,hp,fK,aO⟩
  ·omega
  rw[← HN.out]at hv;injection hv with g1 _ g3
  subst g1;subst g3;obtain⟨aw,cw,jf,fe⟩:=aO k iF;have wA:=uh (Pl.cX Pl.aK l k iF);have Mp:(l.getD k Pl.aK).ws.length≤4194304:=by
   have e:l.getD k Pl.aK=l[k]:=by simp[iF]
   rw[e];exact QD.out _ (List.getElem_mem iF)
  obtain⟨x,hx⟩:∃ x,x=l.getD k Pl.aK:=⟨_,rfl⟩
  rw[← hx]at jf fe wA Mp;have fg:=uh jf;have HF:=uh fe;have PW:=uh Mp;have fB:=uh hp;have ec:(0:Int)≤(k:Int):=by omega
  have dP:(k:Int)<(n:Int):=by omega
  clear hx jf fe Mp hp aO fK;go_upto_region 5 with fail
  refine RY.kF wr zR (VCl (.slice ua k uc) (.slice (some ⟨p,o,none⟩) n vc) wr.heap.size p o k x aw cw) (DM _ _ _ _ _ _ _ _ _) (fun u W'=>∃ g cap G' xs',u=.slice (some ⟨g,0,none⟩) (k+1) cap∧Gr W' wa.heap.size 46 aA u (k+1) G' ((l.take (k+1)).flatMap lnD) xs'∧Bel wa W') 15 12 27 3 (by kernel_rfl) (by kernel_rfl) (by kernel_rfl) (by kernel_rfl) (by kernel_rfl) rfl (by kernel_rfl) _ _ rfl rfl rfl rfl rfl (by kernel_rfl) ?_ ?_ ?_
  ·intro i o' ho gG a X hX hk hd;have y0:X.cell? ⟨p,o+k*2,none⟩=some (.string x.key):=(hX.cell (p:=⟨p,o+k*2,none⟩) fB.out).trans (aE fg.out 0 _ rfl);have y1:X.cell? ⟨p,o+k*2+1,none⟩=some (.slice aw x.ws.length cw):=(hX.cell (p:=⟨p,o+k*2+1,none⟩) fB.out).trans (aE fg.out 1 _ rfl);match i,ho with
   |0,rfl=>
    have e3:a.tmps[3]?.getD undef=.slice ua k uc:=(RY.af a 3).trans ((hk 3 (RY.ee (by kernel_rfl))).trans rfl);exact⟨.slice ua k uc,X,by simp[execOp,go_sem,e3],zR,rfl⟩
   |1,rfl|7,rfl=>
    have e0:a.tmps[0]?.getD undef=.slice (some ⟨p,o,none⟩) n vc:=(RY.af a 0).trans ((hk 0 (RY.ee (by kernel_rfl))).trans rfl);exact⟨.slice (some ⟨p,o,none⟩) n vc,X,by simp[execOp,go_sem,e0],zR,rfl⟩
   |2,rfl|8,rfl=>
    have e4:a.tmps[4]?.getD undef=.int .i64 (k:Int):=(RY.af a 4).trans ((hk 4 (RY.ee (by kernel_rfl))).trans rfl);exact⟨.int .i64 (k:Int),X,by simp[execOp,go_sem,e4],zR,rfl⟩
   |3,rfl=>
    exact⟨.pointer (some ⟨p,o+k*2,none⟩),X,by simp[execOp,go_sem,RY.E1 hd 1 13,RY.E1 hd 2 14,ec,dP],zR,rfl⟩
   |4,rfl=>
    exact⟨.pointer (some ⟨p,o+k*2,none⟩),X,by simp[execOp,go_sem,RY.E1 hd 3 15],zR,rfl⟩
   |5,rfl=>
    exact⟨.string x.key,X,by simp[execOp,go_sem,RY.E1 hd 4 16,y0],zR,rfl⟩
   |6,rfl=>
    exact⟨_,X.alloc (.cells #[] 9),by simp[execOp,go_sem],ae zR _,⟨X.heap.size,rfl,hX.size,heap_alloc_new X _⟩⟩
   |9,rfl=>
    exact⟨.pointer (some ⟨p,o+k*2,none⟩),X,by simp[execOp,go_sem,RY.E1 hd 7 19,RY.E1 hd 8 20,ec,dP],zR,rfl⟩
   |10,rfl=>
    exact⟨.pointer (some ⟨p,o+k*2+1,none⟩),X,by simp[execOp,go_sem,RY.E1 hd 9 21],zR,rfl⟩
   |11,rfl=>
    exact⟨.slice aw x.ws.length cw,X,by simp[execOp,go_sem,RY.E1 hd 10 22,y1],zR,rfl⟩
   |12,rfl=>
    obtain⟨g,e0,tP,wW⟩:=hd 6 _ 18 rfl rfl ⟨⟨6,.data⟩,by simp,rfl,rfl⟩ (by decide);have e1:=hd 11 _ 23 rfl rfl ⟨⟨11,.data⟩,by simp,rfl,rfl⟩ (by decide);obtain⟨v',X',xs',hr,hg,hb⟩:=pQ (P:=Tryz.prog) wr.heap.size 44 44 9 9 1 16 _ Tryz.gS Tryz.bA rfl (by decide) (by decide) [.s] rfl (by simp[cZ]) X (.slice (some ⟨g,0,none⟩) 0 0) (Or.inr ⟨g,rfl,tP,wW⟩) hX.size x.ws.length (txD x.ws) (.slice aw x.ws.length cw) (HF.out.later hX) PW.out;obtain⟨wx,wc,Mk⟩:=hg.shape;subst Mk;exact⟨_,X',aQ (.tmp 18) (.tmp 23) 44 rfl e0 e1 hr,hb,wx,wc,xs',rfl,hg⟩
   |13,rfl=>
    have e0:=(RY.af a 17).trans (hd 5 _ 17 rfl rfl ⟨⟨5,.data⟩,by simp,rfl,rfl⟩ (by decide));obtain⟨wx,wc,xs',e1,hg⟩:=hd 12 _ 24 rfl rfl ⟨⟨12,.data⟩,by simp,rfl,rfl⟩ (by decide);have e2:=(RY.af a 24).trans e1;exact⟨.agg #[.string x.key,.slice wx x.ws.length wc],X,by simp[execOp,go_sem,e0,e2],zR,wx,wc,xs',rfl,hg⟩
   |14,rfl=>
    obtain⟨wx,wc,xs',e1,hg⟩:=hd 13 _ 25 rfl rfl ⟨⟨13,.data⟩,by simp,rfl,rfl⟩ (by decide);have e2:=(RY.af a 25).trans e1;exact⟨.slice (some ⟨X.heap.size,0,none⟩) 1 1,X.alloc (.cells #[.string x.key,.slice wx x.ws.length wc] 46),by simp[execOp,go_sem,e2],ae zR _,X.heap.size,wx,wc,xs',rfl,heap_alloc_new X _,hg.later (ae zR _)⟩
   |n+15,ho=>omega
  ·intro a X hX hk hd;have y0:X.cell? ⟨p,o+k*2,none⟩=some (.string x.key):=(hX.cell (p:=⟨p,o+k*2,none⟩) fB.out).trans (aE fg.out 0 _ rfl);have y1:X.cell? ⟨p,o+k*2+1,none⟩=some (.slice aw x.ws.length cw):=(hX.cell (p:=⟨p,o+k*2+1,none⟩) fB.out).trans (aE fg.out 1 _ rfl);have e0:=hd 0 _ 12 rfl rfl ⟨⟨0,.data⟩,by simp,rfl,rfl⟩ (by decide);obtain⟨q,wx,wc,ys,e1,ot,hg⟩:=hd 14 _ 26 rfl rfl ⟨⟨14,.data⟩,by simp,rfl,rfl⟩ (by decide);obtain⟨FW,rr,nd,fr⟩:=hg.done;have fc:Rep X false aA (FW++[]) (lnD x) [.string x.key,.slice wx x.ws.length wc]:=eF x.key rr;have MG:=EN.out.later hX;obtain⟨g,cap,X',dM,ff,nr,wW,_⟩:=run_append_lies (P:=Tryz.prog) (w:=X) 39 39 wa.heap.size 46 i0 _ 2 40 Tryz.cI gF ga dJ gH rfl (by decide) (.slice ua k uc) k xs MG.row ⟨q,0,none⟩ 1 1 [.string x.key,.slice wx x.ws.length wc] rfl (fun j y hy=>by rw[Addr.add_mid,Nat.zero_add];simp only[World.cell?,ot];simpa using hy) (fun y hy=>fc.raw.one y hy) (by decide) (by unfold maxLen;omega) (by omega) (Nat.le_trans M1.out.size hX.size) X.heap.size rfl;refine⟨_,X',aQ (.tmp 12) (.tmp 26) 39 rfl e0 e1 dM,g,cap,G++(FW++[]),xs++[.string x.key,.slice wx x.ws.length wc],rfl, ?_, ?_⟩
   ·have:=EN.out.push (F:=FW++[]) hX fc (by rw[List.append_nil];exact nd) (fun b hb=>by rw[List.append_nil]at hb;exact fr b hb) M1.out.size ff nr zE wW;rw[wA.out,List.flatMap_append,List.flatMap_singleton];exact this
   ·exact mr (ah M1.out hX) nr (fun b hb=>(bI MG.row hb).1)
  ·rintro vals X hK e2;simp only[RY.aC,Act.put,List.setIfInBounds_toArray,List.set_cons_zero,List.set_cons_succ];rw[e2];generalize vals 12=s12;generalize vals 13=s13;generalize vals 14=s14;generalize vals 15=s15;generalize vals 16=s16;generalize vals 17=s17;generalize vals 18=s18;generalize vals 19=s19;generalize vals 20=s20;generalize vals 21=s21;generalize vals 22=s22;generalize vals 23=s23;generalize vals 24=s24;generalize vals 25=s25;generalize vals 26=s26;obtain⟨g,cap,G',xs',e1,hg,hb⟩:=hK;rw[e1]at hg ⊢;have HN:=uh (And.intro hg hb);clear hg hb e1 e2 EN M1;go_wp2;go_roundw
   case rel=>exact⟨k+1,G',xs',by omega,by go_num,HN.out.1,HN.out.2⟩
   case measure=>simp[intOf];omega
end Go.Proofs.YtopjjknojnfhmaaGreatDoor
