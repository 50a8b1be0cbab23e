import Derived.Lib.AppendStr
import Derived.Lib.Builder
import Derived.Lib.UnsafeStr
import Derived.Laws.Externs
import Derived.StillTailTactics
import Derived.Shelf.RegionOpenPlain
import Derived.Test.YtopjjknojnfhmaaGreatDoorESd
import Derived.Test.YtopjjknojnfhmaaGreatDoorEPp
import Derived.Test.YtopjjknojnfhmaaGreatDoorRegC
import Derived.Test.YtopjjknojnfhmaaGreatDoorEIb
import Derived.Test.YtopjjknojnfhmaaGreatDoorEWb
namespace Go.Proofs.YtopjjknojnfhmaaGreatDoor
set_option maxHeartbeats 40000000
open Go.RowKit Go.Deep
theorem uJ (s:ByteArray):Lib.strCells s=Pl.byV s.data.toList:=rfl
theorem tu {w:World} {ops:Array Oper} {rest:List Oper} {o:Oper} {a:Act} {Q:Exit→Act→World→Prop} (nN:o.guard=none) (sl x:Operand)
  (ho:o.op=.call {callee:=.builtin .append,args:=#[sl,x],argTypes:=#[22,9]}) (lo:Nat) (v:Value) (l:List UInt8) (hs:a.eval sl=v) (ff:By w lo v l) (s:ByteArray) (hx:a.eval x=.string s)
  (h63:l.length+s.size≤1099511627776) (bR:lo≤w.heap.size)
  (h:∀ v' w',By w' lo v' (l++s.data.toList)→w.grownBy w' v.ownBlock→wpList Tryz.prog ops Q rest (a.put o.dst v') w'):wpList Tryz.prog ops Q (o::rest) a w:=by
 obtain⟨i0,hi,ga,dJ,gH⟩:=ji Tryz.lZ;refine Lib.wpList_append_own_string w nN sl x 22 9 ho lo 5 i0 Tryz.dv (by kernel_rfl) hi ga dJ gH v l.length (Pl.byV l) hs ff s hx (by unfold maxLen;omega) (by omega) bR fun v' w' q1 q2 _=>h v' w' ?_ q2;unfold By;rw[Pl.sV,List.length_append,Pl.aD,← uJ];exact q1
theorem By.ne {W:World} {lo p:Nat} {T:TypeId} {v:Value} {l:List UInt8} {cs:List Value} (h:By W lo v l) (hb:al W p T cs) (hT:T≠5):v.ownBlock≠some p:=fun e=>by
 rcases h.2 with⟨q,_⟩|⟨g,cap,cur,q1,q2,q3,_⟩
 ·rw[q]at e;cases e
 ·rw[q1]at e;injection e with e
  have e':g=p:=e;subst e';obtain⟨qO,h1,_⟩:=hb.own;rw[q3]at h1;injection h1 with h1
  injection h1 with _ h2
  exact hT h2.symm
theorem CC (x:Pl.Ln) (a1:Option Addr) (c1:Nat) (w:World) (hA:Raw w bB [.row x.ws.length (txD x.ws)] [.slice a1 x.ws.length c1]) (hw:Pl.wln x≤1048576):
  Calls Tryz.prog 21 #[.agg #[.string x.key,.slice a1 x.ws.length c1]] w fun e w'=>e=.returned (.string ⟨(Pl.dw x).toArray⟩)∧Bel w w':=by
 have HA:=uh hA;have ow:=uh hw;obtain⟨wa,aZ⟩:∃ wa,wa=w.alloc (.cells #[.string x.key,.slice a1 x.ws.length c1] 46):=⟨_,rfl⟩
 have jG:Hid (Bel w wa):=by show Below _ _ _;rw[aZ];exact ae zR _
 have HX:Hid (aS wa w.heap.size [.string x.key,.slice a1 x.ws.length c1]):=by show aS _ _ _;rw[aZ];exact aS.new w #[.string x.key,.slice a1 x.ws.length c1] _ _ rfl
 clear hA hw;go_enter Tryz.func21,Tryz.ntmps21
 go_upto_region 1 with fail
 rw[← aZ];clear aZ;have x0:=HX.out.get 0 _ rfl;have xl:=HX.out.lt;go_wp2;go_loopw [3,4] (fun vo vi wr=>∃ (k:Nat) (T:ByteArray),k≤x.ws.length∧vi=.int .i64 k∧vo=.string T∧T.data.toList=x.key.data.toList++Pl.cS (x.ws.take k)∧Bel wa wr) (fun _ vi _=>x.ws.length - (intOf vi).toNat)
 case atStart=>exact⟨0,x.key,zN,rfl,rfl,by simp[Pl.cS],zR⟩
 case round=>
  obtain⟨k,T,hk,rfl,rfl,hT,hW⟩:=hrel;have HT:=uh hT;have HW:=uh hW;have x1:=(HX.out.later hW).get 1 _ rfl;have xl1:=(HX.out.later hW).lt;clear hT hW x0 xl;by_cases bd:k<x.ws.length
  rotate_left
  ·obtain rfl:k=x.ws.length:=by omega
   have HE:Hid (T=⟨(Pl.dw x).toArray⟩):=by
    show _=_;rw[Pl.dw,← List.take_length (l:=x.ws),← HT.out,Pl.back]
   go_wp2;go_ret;exact⟨Pl.eo HE.out,ah jG.out HW.out⟩
  rcases dS (HA.out.later (ah jG.out HW.out)) with⟨e0,_⟩|⟨p,o,c,hv,hp,fK,hc⟩
  ·omega
  injection hv with g1 _ g3
  subst g1;subst g3;unfold maxLen at fK;have y1:=hc k bd;have Oj:(x.ws.getD k Pl.aJ).size≤1048576:=by
   have e:x.ws.getD k Pl.aJ=x.ws[k]:=by simp[bd]
   have:=Pl.cW (fun w:ByteArray=>w.size+1) x.ws _ (List.getElem_mem bd);have:=ow.out;unfold Pl.wln Pl.wtx at this;rw[e];omega
  have wg:Hid (T.size≤4194304):=by
   show _≤_;rw[← Pl.aD,HT.out,List.length_append,Pl.aD];have h1:=Pl.jR (x.ws.take k);have h2:=Pl.dy (fun w:ByteArray=>w.size+1) x.ws k;have h3:=ow.out;unfold Pl.wtx at h1;unfold Pl.wln Pl.wtx at h3;omega
  have HN:Hid (Pl.cS (x.ws.take (k+1))=Pl.cS (x.ws.take k)++(32::Pl.de (x.ws.getD k Pl.aJ).data.toList)):=by
   show _=_;rw[Pl.cX Pl.aJ x.ws k bd];simp[Pl.cS]
  obtain⟨y,hy⟩:∃ y,y=x.ws.getD k Pl.aJ:=⟨_,rfl⟩
  rw[← hy]at y1 Oj HN;have ec:(0:Int)≤(k:Int):=by omega
  have dP:(k:Int)<(x.ws.length:Int):=by omega
  have HWL:=uh (Pl.lX y.data.toList);have ko:¬ (9223372036854775807<T.size+1):=by have:=wg.out;omega
  have tQ:¬ (9223372036854775807<T.size+1+(Pl.bY y).size):=by
   have e:(Pl.bY y).size=(Pl.de y.data.toList).length:=by simp[Pl.bY,ByteArray.size]
   have:=wg.out;have:=HWL.out;rw[Pl.aD]at this;omega
  clear hc hy;go_wp2_with (go_at_call 40;refine(xx _ _ Oj).mono ?_;rintro e w1 ⟨rfl,bJ⟩)
  go_roundw
  case rel=>exact⟨k+1,_,by omega,by go_num,rfl,by rw[HN.out];simp[ByteArray.data_append,HT.out,Pl.bY],ah HW.out bJ⟩
  case measure=>simp[intOf];omega
namespace RY
theorem ma {P:Program} {id:Nat} {Q:Exit→Act→World→Prop} {a0:Act} {w:World} {l:List Oper} (v:World) (hv:Bel v w)
  (V:Nat→Value→World→Prop) (hVm:∀ j u W W',Bel W W'→V j u W→V j u W')
  (K:World→Prop) (n fuel:Nat)
  (hm:P.follows .mixedOrders=true) (hasc:asc .any l.toArray=true) (hap:di l=true) (dr:dK l a0.tmps.size=true)
  (hlen:l.length=n+1) (D:List Nat) (hD:(D.all fun d=>decide (d<n)&&waits l n d)=true)
  (hclo:((List.range n).all fun i=>(clo l fuel D).contains i)=true)
  (oS:Oper) (hS:l[n]? =some oS) (hSd:oS.dst.isSome=true)
  (ks:((l.take n).all fun o=>o.dst.isSome)=true)
  (iH:∀ (i:Nat) (o:Oper),l[i]? =some o→i<n→∀ (a:Act) (W:World),Bel v W→(∀ k,cP l k=true→a.eval (.tmp k)=a0.eval (.tmp k))→
   (∀ (j:Nat) (o':Oper) (k:Nat),l[j]? =some o'→o'.dst=some k→(∃ e∈o.after,e.on=j∧Region.binds .any e=true)→j<n→V j (a.eval (.tmp k)) W)→
   (∃ u W',(execOp a.eval o).run P W=.ok (.value u) W'∧Bel W W'∧V i u W')∨
   (∃ f args,(execOp a.eval o).run P W=.ok (.enter f args) W∧Calls P f args W fun e W'=>∃ u,e=.returned u∧Bel W W'∧V i u W'))
  (kS:∀ (a:Act) (W:World),Bel v W→(∀ k,cP l k=true→a.eval (.tmp k)=a0.eval (.tmp k))→
   (∀ (j:Nat) (o':Oper) (k:Nat),l[j]? =some o'→o'.dst=some k→(∃ e∈oS.after,e.on=j∧Region.binds .any e=true)→j<n→V j (a.eval (.tmp k)) W)→
   ∃ f args,(execOp a.eval oS).run P W=.ok (.enter f args) W∧Calls P f args W fun e W'=>∃ u,e=.returned u∧K W')
  (dt:∀ (vs:Nat→Value) (W:World),K W→Q .normal (aC l a0 vs) W):
  (Code.region id l.toArray true).wp P Q a0 w:=by
 rw[List.all_eq_true]at hD;refine j5 (fun _ _=>True) (fun up vals W=>(up n=false→Bel v W∧∀ j,j<n→up j=true→V j (vals j) W)∧(up n=true→K W)) hm hasc hap dr ?_ ?_ ?_
 ·intro vals;exact⟨fun _=>⟨Below.drew hv,fun j _ h=>by simp at h⟩,fun h=>by simp at h⟩
 ·intro up vals i o ho hi eN a W hk gK hT;have nt:i<n+1:=by rw[← hlen];exact(List.getElem?_eq_some_iff.1 ho).1
  have qN:(∀ d∈D,up d=true)→∀ j,j<n→up j=true:=fun h j hj=>by
   rw[List.all_eq_true]at hclo;have:=hclo j (by simp;omega);exact gm eN fuel D h j (by simpa using this)
  by_cases kB:up n=true
  ·exfalso;have bs:∀ j,j<n+1→up j=true:=fun j hj=>by
    by_cases e:j=n
    ·rw[e];exact kB
    ·exact qN (fun d hd=>by
      have h2:=hD d hd;rw[Bool.and_eq_true,decide_eq_true_eq]at h2;obtain⟨e,he,mM,oI⟩:=aU h2.2 hS;rw[← mM];exact eN n oS e hS he oI kB) j (by omega)
   rw[bs i nt]at hi;cases hi
  ·have kB:up n=false:=by simpa using kB
   obtain⟨BJ,hV⟩:=hT.1 kB;have eQ:i<n→o.dst.isSome=true:=fun h=>by
    rw[List.all_eq_true]at ks;exact ks _ (List.mem_of_getElem? (i:=i) (by rw[List.getElem?_take_of_lt h];exact ho))
   by_cases gG:i<n
   ·have key:∀ u W',Bel W W'→V i u W'→((fun j=>(j==i)||up j) n=false→Bel v W'∧∀ j,j<n→(fun j=>(j==i)||up j) j=true→V j ((fun j=>if j=i then u else vals j) j) W')∧((fun j=>(j==i)||up j) n=true→K W'):=fun u W' hW nI=>by
     refine⟨fun _=>⟨ah BJ hW,fun j hj hu=> ?_⟩,fun h=> ?_⟩
     ·by_cases e:j=i
      ·simp only[e,if_true];exact nI
      ·have hu:up j=true:=by simpa [e]using hu
       simp only[e,if_false];exact hVm _ _ _ _ hW (hV j hj hu)
     ·have:¬ n=i:=by omega
      have:up n=true:=by simpa [this]using h
      rw[kB]at this;cases this
    rcases iH i o ho gG a W BJ hk (fun j o' k hj jg hd lJ=>by
      obtain⟨q1,q2,_⟩:=gK j o' k hj jg hd;rw[q2];exact hV j lJ q1) with⟨u,W',hr,hW,nI⟩|⟨f,args,hr,hc⟩
    ·exact Or.inl ⟨u,W',hr,eQ gG,trivial,key u W' hW nI⟩
    ·refine Or.inr (Or.inr ⟨f,args,hr,eQ gG,hc.mono ?_⟩);rintro e W' ⟨u,rfl,hW,nI⟩;exact⟨u,rfl,trivial,key u W' hW nI⟩
   ·obtain rfl:i=n:=by omega
    rw[hS]at ho;injection ho with ho
    subst ho;obtain⟨f,args,hr,hc⟩:=kS a W BJ hk (fun j o' k hj jg hd lJ=>by
     obtain⟨q1,q2,_⟩:=gK j o' k hj jg hd;rw[q2];exact hV j lJ q1)
    refine Or.inr (Or.inr ⟨f,args,hr,hSd,hc.mono ?_⟩);rintro e W' ⟨u,rfl,hK⟩;exact⟨u,rfl,trivial,fun h=>by simp at h,fun _=>hK⟩
 ·intro up vals vs W bs iI hT;exact dt vs W (hT.2 (bs n (by omega)))
end RY
set_option maxRecDepth 8000
theorem By.mks {W W':World} {S:Nat→Prop} {lo:Nat} {v:Value} {l:List UInt8} (h:By W lo v l) (hm:Marks S W W') (hn:∀ q,v.ownBlock=some q→¬ S q):By W' lo v l:=by
 refine⟨h.1, ?_⟩;rcases h.2 with q|⟨g,cap,cur,e,h1,h2,r⟩
 ·exact .inl q
 ·have hl:g<W.heap.size:=by
   by_cases q:g<W.heap.size
   ·exact q
   ·rw[Array.getElem?_eq_none (by omega)]at h2;cases h2
  exact .inr ⟨g,cap,cur,e,h1,(hm.block g hl (hn g (by rw[e];rfl))).trans h2,r⟩
abbrev eB:TypeId:=52
theorem Tryz.jo:Tryz.prog.underlying 48=some (.pointer 50):=by kernel_rfl
theorem Tryz.pH:Tryz.prog.underlying 113=some .unsafePointer:=by kernel_rfl
theorem Tryz.AK:Tryz.prog.underlying 89=some (.pointer 5):=by kernel_rfl
theorem Tryz.te:(Tryz.prog.info? 50).map (·.size)=some 2:=by kernel_rfl
theorem Tryz.sG:liesAt Tryz.prog Tryz.prog.depth eB (2 / Tryz.prog.cellsOf eB) 0 50 1=true:=by kernel_rfl
theorem Tryz.oN:Tryz.prog.cellsOf 5=1:=by kernel_rfl
theorem al.shape {W:World} {p:Nat} {u:TypeId} {cs:List Value} (h:al W p u cs):W.shape? p=some (u,cs.length):=by
 obtain⟨c,h1,h2⟩:=h.own;simp[World.shape?,h1,h2]
theorem al.C8 {W W':World} {row:Option Nat} {p:Nat} {u:TypeId} {cs:List Value} (h:al W p u cs) (hg:W.grownBy W' row) (hn:row≠some p):al W' p u cs:=by
 have hb:W'.heap[p]? =W.heap[p]? :=hg.block p h.own.lt (fun e=>hn e.symm);refine⟨?_,cO h.at_ fun j _=>World.cell?_of_block (a:=⟨p,0+j,none⟩) hb⟩;obtain⟨c,h1,h2⟩:=h.own;exact⟨c,hb.trans h1,h2⟩
theorem xV (b:Nat) (p v:Value) (w:World) (hp:p=.pointer none∨p=.pointer (some ⟨b,0,none⟩)) (h:al w b eB [p,v]):
  Calls Tryz.prog 66 #[.pointer (some ⟨b,0,none⟩)] w fun e w'=>e=.returned (.tuple #[])∧al w' b eB [.pointer (some ⟨b,0,none⟩),v]∧Marks (fun x=>x=b) w w':=by
 obtain⟨j,hj,hjs⟩:=Option.map_eq_some_iff.1 Tryz.te;have hsh:w.shape? b=some (eB,2):=h.shape;have c0:=h.get 0 _ rfl;have JN:=h.own.frozen 0;have bd:=h.own.lt;have HX:=uh h;rcases hp with hp|hp
 ·subst hp;have H2:Hid (al (w.setCell ⟨b,0,none⟩ (.pointer (some ⟨b,0,none⟩))) b eB [.pointer (some ⟨b,0,none⟩),v]):=HX.out.set 0 _ (by simp);clear h;go_enter Tryz.func66,Tryz.ntmps66
  go_wp2;rw[Lib.run_to_unsafe w ⟨b,0,none⟩ Tryz.jo Tryz.pH hj (by rw[hjs];decide) hsh (Nat.zero_lt_succ 1)];simp only[Result.andThen];rw[Oper.upon_value];go_wp2;rw[run_callFunc_extern Tryz.func86 (by kernel_rfl) (by kernel_rfl) (by kernel_rfl) (e:=Extern.AbiNoEscape.same) (by kernel_rfl)];rw[Lib.run_noEscape];simp only[Result.andThen];rw[Oper.upon_value];go_wp2;rw[Lib.run_from_unsafe w ⟨b,0,none⟩ Tryz.pH Tryz.jo hj hsh Tryz.sG];simp only[Result.andThen];rw[Oper.upon_value];go_wp2;go_end0
  exact⟨rfl,H2.out,Marks.sc (S:=fun x=>x=b) w rfl 0 _⟩
 ·subst hp;clear h;go_enter Tryz.func66,Tryz.ntmps66
  go_wp2;rw[Lib.run_neq_ptr_same w _ Tryz.jo hj];go_wp2;go_end0
  exact⟨rfl,HX.out,Marks.refl _ _⟩
structure BW (B b:Nat) (l:List UInt8) (W:World):Prop where
 hB:B≤b
 ex:∃ p v,(p=.pointer none∨p=.pointer (some ⟨b,0,none⟩))∧al W b eB [p,v]∧By W B v l∧(l=[]→v=.slice none 0 0)
structure KB (B b:Nat) (w w':World):Prop where
 bel:Below B w w'
 box:∀ k T cs,al w k T cs→k≠b→T≠5→al w' k T cs
theorem KB.refl (B b:Nat) (w:World):KB B b w w:=⟨zR,fun _ _ _ h _ _=>h⟩
theorem KB.trans {B b:Nat} {a c d:World} (h:KB B b a c) (k:KB B b c d):KB B b a d:=⟨h.bel.trans k.bel,fun q T cs hb h1 h2=>k.box q T cs (h.box q T cs hb h1 h2) h1 h2⟩
theorem KB.of {B b:Nat} {w w':World} (hB:B≤w.heap.size) (h:Bel w w'):KB B b w w':=
 ⟨⟨h.os,h.tape,h.output,h.size,fun k hk=>h.block k (by omega)⟩,fun _ _ _ hb _ _=>hb.later h⟩
theorem BW.later {B b:Nat} {l:List UInt8} {w w':World} (h:BW B b l w) (hb:Bel w w'):BW B b l w':=by
 obtain⟨p,v,h1,h2,h3,h4⟩:=h.ex;exact⟨h.hB,p,v,h1,h2.later hb,h3.later hb,h4⟩
theorem DO:eB≠5:=by decide
theorem l8 (B b:Nat) (l:List UInt8) (s:ByteArray) (w:World) (h:BW B b l w) (hBw:B≤w.heap.size) (du:l.length+s.size≠0) (mP:l.length+s.size≤1099511627776):
  Calls Tryz.prog 37 #[.pointer (some ⟨b,0,none⟩),.string s] w fun e w'=>e=.returned (.tuple #[.int .i64 (s.size:Nat),.nilIface])∧BW B b (l++s.data.toList) w'∧KB B b w w'∧B≤w'.heap.size:=by
 obtain⟨hB,p,v,hp,ic,ud,_⟩:=h;have HC:=uh (xV b p v w hp ic);have fU:=uh ic;have R3:=uh ud;have I7:Hid (l++s.data.toList≠ []):=fun e=>by
  have:=congrArg List.length e;rw[List.length_append,Pl.aD,List.length_nil]at this;omega
 clear ic ud hp du;go_enter Tryz.func37,Tryz.ntmps37
 go_wp2_with fail
 refine HC.out.mono ?_;rintro e w1 ⟨rfl,Ic,ns⟩;have tS:v.ownBlock≠some b:=R3.out.ne fU.out DO;have ER:=uh Ic;have wi:=uh ns;have II:Hid (By w1 B v l):=R3.out.mks ns (fun q hq e=>tS (by rw[hq,e]));have bR:B≤w1.heap.size:=Nat.le_trans hBw ns.size;have c1:=Ic.get 1 _ rfl;have bd:=Ic.own.lt;obtain⟨a1,k1,e1⟩:=R3.out.shape;subst e1;clear Ic ns HC;go_wp2_with (refine tu rfl (.tmp 12) (.tmp 13) rfl B (.slice a1 l.length k1) l rfl II.out s rfl mP bR ?_;intro v' w2 KT ny;obtain⟨a2,k2,e2⟩:=KT.shape;rw[List.length_append,Pl.aD]at e2;subst e2;have Pp:=uh KT;have oD:=uh ny;have vY:=uh (ER.out.C8 ny (II.out.ne ER.out DO));have c2:=vY.out.get 1 _ rfl;have hlt2:=vY.out.own.lt;have hfz2:=vY.out.own.frozen 1;clear KT ny c1 bd)
 go_ret2;have wN:Marks (fun x=>x=b) w2 (w2.setCell ⟨b,1,none⟩ (.slice a2 (l.length+s.size) k2)):=Marks.sc (S:=fun x=>x=b) w2 rfl 1 _;have SE:=vY.out.set 1 (.slice a2 (l.length+s.size) k2) (by simp);refine⟨rfl,⟨hB,_,_,Or.inr rfl,SE,Pp.out.mks wN (fun q hq e=>Pp.out.ne vY.out DO (by rw[hq,e])),fun e=>absurd e I7.out⟩,⟨?_,fun k T cs hk kh hT=> ?_⟩, ?_⟩
 ·have q1:Below B w w1:=⟨wi.out.os,wi.out.tape,wi.out.output,wi.out.size,fun k hk=>wi.out.block k (by omega) (by omega)⟩
  have q2:Below B w w2:=Below.grown q1 oD.out bR fun q hq=>by have:=(World.ownsRow.lt II.out q hq).1;omega
  exact q2.setCell (p:=⟨b,1,none⟩) hB _
 ·have h1:=hk.mks wi.out kh;have h2:=h1.C8 oD.out (II.out.ne h1 hT);exact h2.mks wN kh
 ·exact Nat.le_trans (Nat.le_trans bR oD.out.size) wN.size
theorem QG (B b:Nat) (l:List UInt8) (w:World) (h:BW B b l w) (mP:l.length≤1099511627776):
  Calls Tryz.prog 19 #[.pointer (some ⟨b,0,none⟩)] w fun e w'=>e=.returned (.string ⟨l.toArray⟩)∧Below B w w':=by
 obtain⟨hB,p,v,hp,ic,ud,h0⟩:=h;have bd:b<w.drew.heap.size:=ic.own.lt;by_cases hl:l=[]
 ·have hv:=h0 hl;subst hv;subst hl;have c1:w.drew.cell? ⟨b,1,none⟩=some (.slice none 0 0):=ic.get 1 _ rfl;have hSD:(Builtin.unsafeSliceData_ #[22] 89 #[.slice none 0 0]).run Tryz.prog w.drew=.ok (.pointer none) w.drew:=Lib.run_unsafeSliceData_nil _ _ _ _ _;have hUS:(Builtin.unsafeString_ #[89,3] 9 #[.pointer none,.int .i64 0]).run Tryz.prog w.drew=.ok (.string .empty) w.drew:=Lib.run_unsafeString_none _ _ _ _ _;have HB:Hid (Below B w w.drew):=Below.drew zR;clear ic ud h0 hp;go_enter Tryz.func19,Tryz.ntmps19
  go_wp2;have mixed:Tryz.prog.follows .mixedOrders=true:=by kernel_rfl
  go_region_o
  all_goals (go_wp2;go_ret;exact⟨rfl,HB.out⟩)
 ·have Bq:l.length≠0:=fun e=>hl (List.eq_nil_of_length_eq_zero e);obtain⟨g,cap,cur,rfl,hbg,hg,RS,yd,iE,I9⟩:∃ g cap cur,v=.slice (some ⟨g,0,none⟩) l.length cap∧B≤g∧w.heap[g]? =some (.cells cur 5 (0,0))∧l.length≤cap∧cap≤maxLen∧cur.size=cap*1∧cur.toList.take (l.length*1)=Pl.byV l:=by
   rcases ud.2 with⟨_,hz⟩|⟨g,cap,cur,hv,r⟩
   ·exact absurd hz Bq
   ·exact⟨g,cap,cur,hv,r⟩
  have c1:w.drew.cell? ⟨b,1,none⟩=some (.slice (some ⟨g,0,none⟩) l.length cap):=ic.get 1 _ rfl;have hSD:(Builtin.unsafeSliceData_ #[22] 89 #[.slice (some ⟨g,0,none⟩) l.length cap]).run Tryz.prog w.drew=.ok (.pointer (some ⟨g,0,none⟩)) w.drew:=Lib.run_unsafeSliceData_row _ _ _ _ _ _ (by omega);have hUS:(Builtin.unsafeString_ #[89,3] 9 #[.pointer (some ⟨g,0,none⟩),.int .i64 l.length]).run Tryz.prog w.drew=.ok (.string ⟨l.toArray⟩) (w.drew.freeze ⟨g,0,none⟩ l.length):=by
   refine Lib.run_unsafeString_row w.drew 89 3 9 5 Tryz.AK Tryz.oN g cur.size (by have x9:w.drew.heap[g]? =some (.cells cur 5 (0,0)):=hg;simp[World.shape?,x9]) l hl (by omega) (by omega) ?_;intro j x hx;have O0:(Pl.byV l)[j]? =some (.int .u8 (x.toNat:Int)):=by simp[Pl.byV,hx]
   have BZ:j<l.length:=(List.getElem?_eq_some_iff.1 hx).1;have q:cur.toList[j]? =some (.int .u8 (x.toNat:Int)):=by rw[← O0,← I9,List.getElem?_take,if_pos (by omega)]
   rw[show (Addr.add ⟨g,0,none⟩ j)=⟨g,j,none⟩ by rw[Addr.add_mid,Nat.zero_add]];have x9:w.drew.heap[g]? =some (.cells cur 5 (0,0)):=hg;simp only[World.cell?,x9];simpa using q
  have HB:Hid (Below B w (w.drew.freeze ⟨g,0,none⟩ l.length)):=Lib.below_freeze (Below.drew (Below.refl B w)) (p:=⟨g,0,none⟩) hbg _;clear ic ud h0 hp hg iE I9 hl yd RS;go_enter Tryz.func19,Tryz.ntmps19
  go_wp2;have mixed:Tryz.prog.follows .mixedOrders=true:=by kernel_rfl
  go_region_o
  all_goals (go_wp2;go_ret;exact⟨rfl,HB.out⟩)
theorem Pl.pU:∀ l:List UInt8,l.all Pl.bx=true→l.takeWhile Pl.bx=l
 |[],_=>rfl
 |c::l,h=>by
  rw[List.all_cons,Bool.and_eq_true]at h;rw[List.takeWhile_cons,if_pos h.1,Pl.pU l h.2]
theorem Pl.CW:∀ l:List UInt8,(l.takeWhile Pl.bx).all Pl.bx=true
 |[]=>rfl
 |c::l=>by
  rw[List.takeWhile_cons];split
  ·rename_i h;rw[List.all_cons,h,Pl.CW l];rfl
  ·rfl
theorem Pl.vB (s:ByteArray) (p:Nat) (hp:p≤s.size):(s.extract p s.size).toList.isEmpty=decide (p=s.size):=by
 rw[Pl.tl,Pl.jX,Bool.eq_iff_iff,List.isEmpty_iff,List.drop_eq_nil_iff,Pl.aD];simp;omega
theorem Pl.xu (l:List UInt8) (p:Nat) (hp:p≤l.length) (h:l.takeWhile Pl.bx=l.take p):Pl.iu l=(decide (0<l.length)&&decide (p=l.length)):=by
 unfold Pl.iu;congr 1;rw[Bool.eq_iff_iff,decide_eq_true_eq];constructor
 ·intro ha;rw[Pl.pU l ha]at h;have:=congrArg List.length h;rw[List.length_take]at this;omega
 ·intro e;subst e;rw[List.take_length]at h;rw[← h];exact Pl.CW l
theorem nG (s:ByteArray) (w:World) (hs:s.size≤1048576):
  Calls Tryz.prog 87 #[.string s] w fun e w'=>e=.returned (.bool (Pl.iu s.data.toList))∧Bel w w':=by
 have hl:s.data.toList.length=s.size:=Pl.aD s;by_cases h1:1≤s.size
 ·have h0:=Pl.fE s h1;have HC:=uh (rI s w hs);go_enter Tryz.func87,Tryz.ntmps87
  go_wp2_with (go_at_call 108;refine HC.out.mono ?_;rintro e w' ⟨p,hp,ht,rfl,hb⟩)
  go_ret;refine⟨Pl.aq ?_,hb⟩;rw[Pl.xu _ p (by omega) ht,hl,Pl.vB s p hp,Bool.eq_iff_iff];simp;omega
 ·have h0:=Pl.fq s h1;go_enter Tryz.func87,Tryz.ntmps87
  go_wp2;go_ret;refine⟨Pl.aq ?_,zR⟩;have h2:s.size=0:=by omega
  unfold Pl.iu;rw[hl,h2];rfl
theorem Nl:∀ n:Fin 256,bits BinOp.and IntKind.u8 (n.1:Int) 15=((n.1 % 16:Nat):Int):=by decide+kernel
def VIw (va:Value) (q r:Nat) (b:UInt8) (jj:Nat) (u:Value) (W:World):Prop:=match jj with
 |0=>u=va
 |1|4=>u=.int .u8 (b.toNat:Int)
 |2=>u=.int .u8 (q:Int)
 |3=>u=.int .u8 ((Pl.dd q).toNat:Int)
 |5=>u=.int .u8 (r:Int)
 |6=>u=.int .u8 ((Pl.dd r).toNat:Int)
 |7=>∃ B,u=.slice (some ⟨B,0,none⟩) 3 3∧W.heap[B]? =some (.cells #[.int .u8 92,.int .u8 ((Pl.dd q).toNat:Int),.int .u8 ((Pl.dd r).toNat:Int)] 5 (0,0))
 |_=>True
theorem Cl (va:Value) (q r:Nat) (b:UInt8):∀ j u W W',Bel W W'→VIw va q r b j u W→VIw va q r b j u W':=by
 intro j u W W' hb h;match j with
 |0|1|2|3|4|5|6=>exact h
 |7=>
  obtain⟨B,e,hB⟩:=h;exact⟨B,e,(hb.block B (Array.getElem?_eq_some_iff.1 hB).1).trans hB⟩
 |n+8=>exact trivial
theorem nD (v:Value) (L:List UInt8) (b:UInt8) (lo:Nat) (w:World) (hO:By w lo v L) (bR:lo≤w.heap.size) (hL:L.length≤4194304):
  Calls Tryz.prog 88 #[v,.int .u8 b.toNat] w fun e w'=>∃ g cap,e=.returned (.slice (some ⟨g,0,none⟩) (L++Pl.cq b).length cap)∧By w' lo (.slice (some ⟨g,0,none⟩) (L++Pl.cq b).length cap) (L++Pl.cq b)∧∀ a:World,Bel a w→a.heap.size≤lo→Bel a w':=by
 obtain⟨sa,sc,hv⟩:=hO.shape;subst hv;have HO:=uh hO;clear hO;have HC:=uh (gX b w);cases hsf:Pl.eC b
 ·have HE:Hid (Pl.cq b=[92,Pl.dd (b.toNat / 16),Pl.dd (b.toNat % 16)]):=by show _=_;rw[Pl.cq,hsf];rfl
  rw[hsf]at HC;clear hsf;have nM:=Pl.vP b;obtain⟨q,hq⟩:∃ q,q=b.toNat / 16:=⟨_,rfl⟩
  obtain⟨r,hr⟩:∃ r,r=b.toNat % 16:=⟨_,rfl⟩
  rw[← hq,← hr]at HE;have mO:Hid (∀ w,_):=fun w=>sL q (by omega) w;have fL:Hid (∀ w,_):=fun w=>sL r (by omega) w;have FP:Hid ((b.toNat:Int) / 16=(q:Int)):=by show _=_;omega
  have iL:Hid (bits BinOp.and IntKind.u8 (b.toNat:Int) 15=(r:Int)):=by
   show _=_;have:=Nl ⟨b.toNat,nM⟩;rw[hr];exact this
  clear hq hr;go_enter Tryz.func88,Tryz.ntmps88
  go_upto_region 3 with(go_at_call 109;refine HC.out.mono ?_;rintro e w' ⟨rfl,rfl⟩)
  refine RY.kF w zR (VIw (.slice sa L.length sc) q r b) (Cl _ _ _ _) (fun u W'=>∃ g cap,u=.slice (some ⟨g,0,none⟩) (L.length+3) cap∧By W' lo u (L++[92,Pl.dd q,Pl.dd r])∧∀ a:World,Bel a w→a.heap.size≤lo→Bel a W') 8 12 19 4 (by kernel_rfl) (by kernel_rfl) (by kernel_rfl) (by kernel_rfl) (by kernel_rfl) rfl (by kernel_rfl) _ _ rfl rfl rfl rfl rfl (by kernel_rfl) ?_ ?_ ?_
  ·intro i o' ho gG a X hX hk hd;match i,ho with
   |0,rfl=>
    have e0:a.tmps[0]?.getD undef=.slice sa L.length sc:=(RY.af a 0).trans ((hk 0 (RY.ee (by kernel_rfl))).trans rfl);exact⟨.slice sa L.length sc,X,by simp[execOp,go_sem,e0],zR,rfl⟩
   |1,rfl|4,rfl=>
    have e1:a.tmps[1]?.getD undef=.int .u8 (b.toNat:Int):=(RY.af a 1).trans ((hk 1 (RY.ee (by kernel_rfl))).trans rfl);exact⟨.int .u8 (b.toNat:Int),X,by simp[execOp,go_sem,e1],zR,rfl⟩
   |2,rfl=>
    exact⟨.int .u8 (q:Int),X,by simp[execOp,go_sem,RY.E1 hd 1 12,FP.out],zR,rfl⟩
   |3,rfl=>
    exact⟨.int .u8 ((Pl.dd q).toNat:Int),X,by simp[execOp,go_sem,RY.E1 hd 2 13,mO.out X],zR,rfl⟩
   |5,rfl=>
    exact⟨.int .u8 (r:Int),X,by simp[execOp,go_sem,RY.E1 hd 4 15,iL.out],zR,rfl⟩
   |6,rfl=>
    exact⟨.int .u8 ((Pl.dd r).toNat:Int),X,by simp[execOp,go_sem,RY.E1 hd 5 16,fL.out X],zR,rfl⟩
   |7,rfl=>
    have e14:=(RY.af a 14).trans (hd 3 _ 14 rfl rfl ⟨⟨3,.data⟩,by simp,rfl,rfl⟩ (by decide));have e17:=(RY.af a 17).trans (hd 6 _ 17 rfl rfl ⟨⟨6,.data⟩,by simp,rfl,rfl⟩ (by decide));exact⟨.slice (some ⟨X.heap.size,0,none⟩) 3 3,X.alloc (.cells #[.int .u8 92,.int .u8 ((Pl.dd q).toNat:Int),.int .u8 ((Pl.dd r).toNat:Int)] 5),by simp[execOp,go_sem,e14,e17],ae zR _,X.heap.size,rfl,heap_alloc_new X _⟩
   |n+8,ho=>omega
  ·intro a X hX hk hd;have e11:=hd 0 _ 11 rfl rfl ⟨⟨0,.data⟩,by simp,rfl,rfl⟩ (by decide);obtain⟨B,e18,hB⟩:=hd 7 _ 18 rfl rfl ⟨⟨7,.data⟩,by simp,rfl,rfl⟩ (by decide);have NZ:=HO.out.later hX;obtain⟨g,cap,X',hr,bJ,eD⟩:=Ek NZ 22 B 3 3 [92,Pl.dd q,Pl.dd r] rfl _ rfl hB (by decide) (by omega) (Nat.le_trans bR hX.size);exact⟨_,X',aQ (.tmp 11) (.tmp 18) 22 rfl e11 e18 hr,g,cap,rfl,bJ,fun a ha Bk=>NZ.below (ah ha hX) eD Bk⟩
  ·rintro vals X hK e2;simp only[RY.aC,Act.put,List.setIfInBounds_toArray,List.set_cons_zero,List.set_cons_succ];rw[e2];generalize vals 11=s11;generalize vals 12=s12;generalize vals 13=s13;generalize vals 14=s14;generalize vals 15=s15;generalize vals 16=s16;generalize vals 17=s17;generalize vals 18=s18;obtain⟨g,cap,e1,hg,hb⟩:=hK;rw[e1]at hg ⊢;have HN:=uh (And.intro hg hb);clear hg hb e1 e2 HO;go_wp2;go_ret;rw[HE.out];exact⟨g,cap,by simp,by simpa using HN.out.1,HN.out.2⟩
 ·have HE:Hid (Pl.cq b=[b]):=by show _=_;rw[Pl.cq,hsf];rfl
  rw[hsf]at HC;clear hsf;go_enter Tryz.func88,Tryz.ntmps88
  go_wp2_with (first|(go_at_call 109;refine HC.out.mono ?_;rintro e w' ⟨rfl,rfl⟩)|(refine k6 rfl _ _ rfl lo (.slice sa L.length sc) L rfl (HO.out.later (ae zR _)) w.heap.size 1 1 [b] rfl rfl (World.news_of_block (cs:=#[.int .u8 (b.toNat:Int)]) (heap_alloc_new w _)) (by decide) (by omega) (by simp;omega) ?_;intro g1 c1 w1 q1 q2))
  go_ret;rw[HE.out];exact⟨g1,c1,by simp,by simpa using q1,fun a ha Bk=>(HO.out.later (ae zR _)).below (ae ha _) q2 Bk⟩
theorem wY (s:ByteArray) (w:World) (hs:s.size≤1048576):
  Calls Tryz.prog 67 #[.string s] w fun e w'=>e=.returned (.string (Pl.bY s))∧Bel w w':=by
 have hl:s.data.toList.length=s.size:=Pl.aD s;have HL:=uh hl;clear hl;have HC:=uh (nG s w hs);cases eY:Pl.iu s.data.toList
 rotate_left
 ·rw[eY]at HC;have HW:Hid (s=Pl.bY s):=by show _=_;rw[Pl.bY,Pl.de,if_pos eY,Pl.back]
  clear eY;go_enter Tryz.func67,Tryz.ntmps67
  go_wp2_with (go_at_call 87;refine HC.out.mono ?_;rintro e w' ⟨rfl,hb⟩)
  go_ret;exact⟨Pl.eo HW.out,hb⟩
 rw[eY]at HC;have HE:=uh eY;clear eY;go_enter Tryz.func67,Tryz.ntmps67
 go_wp2_with (go_at_call 87;refine HC.out.mono ?_;rintro e w1 ⟨rfl,hb⟩)
 go_loopw [3,11] (fun v i wr=>∃ k:Nat,k≤s.size∧i=.int .i64 k∧By wr w.heap.size v (34::(s.data.toList.take k).flatMap Pl.cq)∧Bel w wr) (fun _ i _=>s.size - (intOf i).toNat)
 case atStart=>exact⟨0,zN,rfl,By.made w1 w.heap.size 34 hb.size,ae hb _⟩
 case round=>
  obtain⟨k,hk,rfl,hO,hW⟩:=hrel;have hle:((s.data.toList.take k).flatMap Pl.cq).length≤3*k:=by
   have:=Pl.nY (s.data.toList.take k);rw[List.length_take]at this;omega
  by_cases bd:k<s.size
  ·have HS:Hid (34::(s.data.toList.take (k+1)).flatMap Pl.cq=(34::(s.data.toList.take k).flatMap Pl.cq)++Pl.cq s[k]):=by
    show _=_;rw[Pl.jO s k bd];simp
   obtain⟨L,hL⟩:∃ L,L=34::(s.data.toList.take k).flatMap Pl.cq:=⟨_,rfl⟩
   have fJ:L.length≤3*k+1:=by rw[hL,List.length_cons];omega
   rw[← hL]at HS hO;have HB:=uh (nD _ L s[k] w.heap.size wr hO hW.size (by omega));clear hL hle fJ HL HE HC hb;have HW:=uh hW;obtain⟨sa,sc,hv⟩:=hO.shape;subst hv;clear hO hW;go_wp2_with (go_at_call 88;refine HB.out.mono ?_;rintro e w2 ⟨g,cap,rfl,h1,h2⟩)
   go_roundw
   case rel=>exact⟨k+1,by omega,by go_num,by rw[HS.out];rw[List.length_append]at h1;exact h1,h2 w HW.out zE⟩
   case measure=>simp[intOf];omega
  ·obtain rfl:k=s.size:=by omega
   have PV:s.data.toList.take s.size=s.data.toList:=List.take_of_length_le (by rw[HL.out];exact zE);rw[PV]at hO hle;obtain⟨L,hL⟩:∃ L,L=34::s.data.toList.flatMap Pl.cq:=⟨_,rfl⟩
   have zy:Hid ((⟨(L++[34]).toArray⟩:ByteArray)=Pl.bY s):=by
    show _=_;rw[Pl.bY,Pl.de,if_neg (by rw[HE.out];decide),hL];rfl
   have fJ:L.length≤3*s.size+1:=by rw[hL,List.length_cons];omega
   rw[← hL]at hO;clear hL hle PV;have jI:=uh fJ;have HO:=uh hO;have HW:=uh hW;obtain⟨sa,sc,hv⟩:=hO.shape;subst hv;clear hO hW fJ bd HL HE HC hb;go_wp2_with (refine k6 rfl _ _ rfl w.heap.size (.slice sa L.length sc) L rfl (HO.out.later (ae zR _)) wr.heap.size 1 1 [34] rfl rfl (World.news_of_block (cs:=#[.int .u8 34]) (heap_alloc_new wr _)) (by decide) (by have:=jI.out;omega) (by have:=HW.out.size;simp;omega) ?_;intro g1 c1 w2 q1 q2;have Ie:=q1.str (by simp);have HQ:=uh (And.intro q1 q2);clear q1 q2)
   go_ret;exact⟨Pl.eo zy.out,(HO.out.later (ae zR _)).below (ae HW.out _) HQ.out.2 zE⟩
def VLa (b:Nat) (bl:Nat) (x:Pl.Ln):Nat→Value→World→Prop
 |0,vv,_|1,vv,_|2,vv,_=>vv=.pointer (some ⟨b,0,none⟩)
 |3,vv,_=>vv=.pointer (some ⟨bl,0,none⟩)
 |4,vv,_=>vv=.string x.key
 |_,_,_=>True
theorem CS (b:Nat) (bl:Nat) (x:Pl.Ln):∀ jj vv W W',Bel W W'→VLa b bl x jj vv W→VLa b bl x jj vv W':=by
 intro jj vv W W' hb h;match jj with
 |0|1|2|3|4=>exact h
 |n+5=>exact trivial
def VLb (b:Nat) (y:ByteArray) (z:ByteArray):Nat→Value→World→Prop
 |0,vv,_|1,vv,_|2,vv,_=>vv=.pointer (some ⟨b,0,none⟩)
 |3,vv,_=>vv=.string y
 |4,vv,_=>vv=.string (Pl.bY y)
 |5,vv,_=>vv=.string z
 |_,_,_=>True
theorem Dg (b:Nat) (y:ByteArray) (z:ByteArray):∀ jj vv W W',Bel W W'→VLb b y z jj vv W→VLb b y z jj vv W':=by
 intro jj vv W W' hb h;match jj with
 |0|1|2|3|4|5=>exact h
 |n+6=>exact trivial
def VBk (b:Nat) (bl:Nat) (x:Pl.Bl) (z1:ByteArray) (z2:ByteArray) (z3:ByteArray):Nat→Value→World→Prop
 |0,vv,_|1,vv,_|2,vv,_=>vv=.pointer (some ⟨b,0,none⟩)
 |3,vv,_=>vv=.pointer (some ⟨bl,0,none⟩)
 |4,vv,_=>vv=.string x.kind
 |5,vv,_=>vv=.string z1
 |6,vv,_=>vv=.pointer (some ⟨bl,1,none⟩)
 |7,vv,_=>vv=.string x.name
 |8,vv,_=>vv=.string z2
 |9,vv,_=>vv=.string z3
 |_,_,_=>True
theorem DE (b:Nat) (bl:Nat) (x:Pl.Bl) (z1:ByteArray) (z2:ByteArray) (z3:ByteArray):∀ jj vv W W',Bel W W'→VBk b bl x z1 z2 z3 jj vv W→VBk b bl x z1 z2 z3 jj vv W':=by
 intro jj vv W W' hb h;match jj with
 |0|1|2|3|4|5|6|7|8|9=>exact h
 |n+10=>exact trivial
theorem NG (w0 w:World) (b:Nat) (l:List UInt8) (x:Pl.Ln) (a1:Option Addr) (c1:Nat) (cd:Bel w0 w) (hA:Raw w0 bB [.row x.ws.length (txD x.ws)] [.slice a1 x.ws.length c1]) (hbw0:BW w0.heap.size b l w) (eY:b<w.heap.size) (du:l.length≠0) (mP:l.length≤1099411627776) (qe:Pl.wln x≤1048576):
  Calls Tryz.prog 38 #[.pointer (some ⟨b,0,none⟩),.agg #[.string x.key,.slice a1 x.ws.length c1]] w fun e w'=>e=.returned (.tuple #[])∧BW w0.heap.size b (l++Pl.dw x) w'∧KB w0.heap.size b w w'∧w0.heap.size≤w'.heap.size:=by
 have cL:=uh cd;have HA:=uh hA;have I7:=uh du;have qa:=uh (And.intro (show l.length+x.key.size≤1099511627776 by unfold Pl.wln at qe;omega) qe);have hlL:=mP;obtain⟨wa,aZ⟩:∃ wa,wa=w.alloc (.cells #[.string x.key,.slice a1 x.ws.length c1] 46):=⟨_,rfl⟩
 obtain⟨bl,ye⟩:∃ bl,bl=w.heap.size:=⟨_,rfl⟩
 have vZ:Hid (Bel w wa):=by show Below _ _ _;rw[aZ];exact ae zR _
 have wj:Hid (al wa bl 46 [.string x.key,.slice a1 x.ws.length c1]):=by show al _ _ _ _;rw[aZ,ye];exact al.new w [.string x.key,.slice a1 x.ws.length c1] 46 _ rfl
 have lM:Hid (w0.heap.size≤wa.heap.size):=Nat.le_trans cd.size vZ.out.size;have tY:Hid (KB w0.heap.size b w wa):=KB.of cd.size vZ.out;have Il:=uh (hbw0.later vZ.out);have wI:Hid (bl≠b):=by show _≠_;omega
 clear cd hA hbw0 eY du qe;go_enter Tryz.func38,Tryz.ntmps38
 go_upto_region 1 with fail
 rw[← aZ,← ye];clear aZ ye;refine RY.ma wa zR (VLa b bl x) (CS _ _ _) ((fun X=>BW w0.heap.size b (l++x.key.data.toList) X∧KB w0.heap.size b w X∧w0.heap.size≤X.heap.size∧al X bl 46 [.string x.key,.slice a1 x.ws.length c1])) 5 12 (by kernel_rfl) (by kernel_rfl) (by kernel_rfl) (by kernel_rfl) rfl [2,4] (by kernel_rfl) (by kernel_rfl) _ rfl rfl (by kernel_rfl) ?_ ?_ ?_
 ·intro ii o' ho E2 a X hX hk hd;have zbl:=wj.out.later hX;have zbll:=zbl.own.lt;match ii,ho with
  |0,rfl=>
   exact RY.p (.pointer (some ⟨b,0,none⟩)) (by simp[execOp,go_sem,RY.K hk 0 (.pointer (some ⟨b,0,none⟩))])
  |1,rfl=>
   exact RY.p (.pointer (some ⟨b,0,none⟩)) (by simp[execOp,go_sem,RY.E1 hd 0 6])
  |2,rfl=>
   exact RY.p (.pointer (some ⟨b,0,none⟩)) (by simp[execOp,go_sem,RY.E1 hd 1 7])
  |3,rfl=>
   exact RY.p (.pointer (some ⟨bl,0,none⟩)) (by simp[execOp,go_sem,RY.K hk 3 (.pointer (some ⟨bl,0,none⟩))])
  |4,rfl=>
   have e9:=RY.E1 hd 3 9;have ycl_:=zbl.get 0 _ rfl;exact RY.p (.string x.key) (by simp[execOp,go_sem,e9,ycl_])
  |n+5,ho=>omega
 ·intro a X hX hk hd;have e8:=RY.E1 hd 2 8;have e10:=RY.E1 hd 4 10;refine⟨37,#[.pointer (some ⟨b,0,none⟩),.string x.key],by simp[go_sem,e8,e10],(l8 w0.heap.size b l x.key X (Il.out.later hX) (Nat.le_trans lM.out hX.size) (by have:=I7.out;omega) (by have:=qa.out.1;omega)).mono ?_⟩;rintro e W' ⟨rfl,lO,kh,bR⟩;exact⟨_,rfl,lO,tY.out.trans ((KB.of lM.out hX).trans kh),bR,kh.box _ _ _ (wj.out.later hX) wI.out (by decide)⟩
 ·intro vs X hK;simp only[RY.aC,Act.put,List.setIfInBounds_toArray,List.set_cons_zero,List.set_cons_succ];generalize vs 6=s6,vs 7=s7,vs 8=s8,vs 9=s9,vs 10=s10,vs 11=s11;obtain⟨lO,kh,bR,It⟩:=hK;have Mb:=uh lO;have Mt:=uh kh;have Mu:=uh bR;clear lO kh bR;have EW:=uh It;have x1:=EW.out.get 1 _ rfl;have xl1:=EW.out.own.lt;go_wp2_with fail
  go_loopw [15] (fun vi wr=>∃ k:Nat,k≤x.ws.length∧vi=.int .i64 k∧BW w0.heap.size b (l++x.key.data.toList++Pl.cS (x.ws.take k)) wr∧KB w0.heap.size b w wr∧w0.heap.size≤wr.heap.size) (fun vi _=>x.ws.length - (intOf vi).toNat)
  case atStart=>exact⟨0,zN,rfl,by simpa [Pl.cS]using Mb.out,Mt.out,Mu.out⟩
  case round=>
   obtain⟨k,hk,rfl,lO,kh,bR⟩:=hrel;have mH:=uh lO;have tI:=uh kh;have qW:=uh bR;clear lO kh bR x1 xl1;by_cases bd:k<x.ws.length
   rotate_left
   ·obtain rfl:k=x.ws.length:=by omega
    have HE:Hid (BW w0.heap.size b (l++Pl.dw x) wr):=by
     show BW _ _ _ _;have q:=mH.out;rw[List.take_length,List.append_assoc]at q;exact q
    go_wp2;go_end0
    exact⟨rfl,HE.out,tI.out,qW.out⟩
   have Bg:Bel w0 wr:=cL.out.trans tI.out.bel;rcases dS (HA.out.later Bg) with⟨e0,_⟩|⟨p,o,c,hv,hp,fK,hc⟩
   ·omega
   injection hv with g1 _ g3
   subst g1;subst g3;unfold maxLen at fK;have y1:=hc k bd;have Oj:(x.ws.getD k Pl.aJ).size≤1048576:=by
    have e:x.ws.getD k Pl.aJ=x.ws[k]:=by simp[bd]
    have:=Pl.cW (fun w:ByteArray=>w.size+1) x.ws _ (List.getElem_mem bd);have:=qa.out.2;unfold Pl.wln Pl.wtx at this;rw[e];omega
   have HN:Hid (Pl.cS (x.ws.take (k+1))=Pl.cS (x.ws.take k)++(32::Pl.de (x.ws.getD k Pl.aJ).data.toList)):=by
    show _=_;rw[Pl.cX Pl.aJ x.ws k bd];simp[Pl.cS]
   have wg:Hid ((l++x.key.data.toList++Pl.cS (x.ws.take k)).length≤l.length+4194304):=by
    show _≤_;rw[List.length_append,List.length_append,Pl.aD];have h1:=Pl.jR (x.ws.take k);have h2:=Pl.dy (fun w:ByteArray=>w.size+1) x.ws k;have h3:=qa.out.2;unfold Pl.wtx at h1;unfold Pl.wln Pl.wtx at h3;omega
   obtain⟨y,hy⟩:∃ y,y=x.ws.getD k Pl.aJ:=⟨_,rfl⟩
   rw[← hy]at y1 Oj HN;have ec:(0:Int)≤(k:Int):=by omega
   have dP:(k:Int)<(x.ws.length:Int):=by omega
   have JL:(Pl.bY y).size≤3*1048576+2:=by
    have e:(Pl.bY y).size=(Pl.de y.data.toList).length:=by simp[Pl.bY,ByteArray.size]
    have:=Pl.lX y.data.toList;rw[Pl.aD]at this;omega
   have ko:¬ (9223372036854775807<1+(Pl.bY y).size):=by omega
   have QD:=uh JL;obtain⟨z,hz⟩:∃ z,({data:=#[32]}++Pl.bY y)=z:=⟨_,rfl⟩
   have HZE:Hid (z.data.toList=32::Pl.de y.data.toList):=by show _=_;rw[← hz];simp[ByteArray.data_append,Pl.bY]
   have HZS:Hid (z.size=1+(Pl.bY y).size):=by show _=_;rw[← hz,ByteArray.size_append];rfl
   obtain⟨LK,Mw⟩:∃ LK,LK=l++x.key.data.toList++Pl.cS (x.ws.take k):=⟨_,rfl⟩
   have BU:=uh Mw;rw[← Mw]at wg mH;have Ix:=uh (fun X (hX:Bel wr X)=>l8 w0.heap.size b LK z X (mH.out.later hX) (Nat.le_trans qW.out hX.size) (by rw[HZS.out];omega) (by rw[HZS.out];have:=wg.out;have:=QD.out;omega));clear hc hy Bg JL Mw;go_upto_region 5 with fail
   refine RY.ma wr zR (VLb b y z) (Dg _ _ _) ((fun X=>BW w0.heap.size b (l++x.key.data.toList++Pl.cS (x.ws.take (k+1))) X∧KB w0.heap.size b w X∧w0.heap.size≤X.heap.size)) 6 12 (by kernel_rfl) (by kernel_rfl) (by kernel_rfl) (by kernel_rfl) rfl [2,5] (by kernel_rfl) (by kernel_rfl) _ rfl rfl (by kernel_rfl) ?_ ?_ ?_
   ·intro ii o' ho E2 a X hX hk hd;match ii,ho with
    |0,rfl=>
     exact RY.p (.pointer (some ⟨b,0,none⟩)) (by simp[execOp,go_sem,RY.K hk 0 (.pointer (some ⟨b,0,none⟩))])
    |1,rfl=>
     exact RY.p (.pointer (some ⟨b,0,none⟩)) (by simp[execOp,go_sem,RY.E1 hd 0 19])
    |2,rfl=>
     exact RY.p (.pointer (some ⟨b,0,none⟩)) (by simp[execOp,go_sem,RY.E1 hd 1 20])
    |3,rfl=>
     exact RY.p (.string y) (by simp[execOp,go_sem,RY.K hk 5 (.string y)])
    |4,rfl=>
     have e22:=RY.E1 hd 3 22;refine Or.inr ⟨67,#[.string y],by simp[go_sem,e22],(wY y X Oj).mono ?_⟩;rintro e W' ⟨rfl,hb⟩;exact⟨_,rfl,hb,rfl⟩
    |5,rfl=>
     exact RY.p (.string z) (by simp[execOp,go_sem,RY.E1 hd 4 23,ko,hz])
    |n+6,ho=>omega
   ·intro a X hX hk hd;have e21:=RY.E1 hd 2 21;have e24:=RY.E1 hd 5 24;refine⟨37,#[.pointer (some ⟨b,0,none⟩),.string z],by simp[go_sem,e21,e24],(Ix.out X hX).mono ?_⟩;rintro e W' ⟨rfl,lO,kh,bR⟩;refine⟨_,rfl, ?_,tI.out.trans ((KB.of qW.out hX).trans kh),bR⟩;rw[HN.out];rw[HZE.out,BU.out,List.append_assoc _ (Pl.cS (List.take k x.ws))]at lO;exact lO
   ·intro vs X hK;simp only[RY.aC,Act.put,List.setIfInBounds_toArray,List.set_cons_zero,List.set_cons_succ];generalize vs 19=s19,vs 20=s20,vs 21=s21,vs 22=s22,vs 23=s23,vs 24=s24,vs 25=s25;obtain⟨lO,kh,bR⟩:=hK;have SL:=uh lO;have RK:=uh kh;have QX:=uh bR;clear lO kh bR;clear hz;go_wp2;go_roundw
    case rel=>exact⟨k+1,by omega,by go_num,SL.out,RK.out,QX.out⟩
    case measure=>simp[intOf];omega
namespace Pl
def ij (b:Bl):List UInt8:=b.kind.data.toList++[32]++b.name.data.toList++[10]
theorem xy (b:Bl):er b=ij b++bN b.lines++[101,110,100,10]:=rfl
theorem AX (b:Bl):(ij b).length=b.kind.size+b.name.size+2:=by
 simp only[ij,List.length_append,aD,List.length_cons,List.length_nil];omega
end Pl
theorem Kn (w0 w:World) (b:Nat) (l:List UInt8) (x:Pl.Bl) (a1:Option Addr) (c1:Nat) (cd:Bel w0 w) (hA:Raw w0 bF [bT x.lines] [.slice a1 x.lines.length c1]) (hbw0:BW w0.heap.size b l w) (eY:b<w.heap.size) (mP:l.length≤1099311627776) (qe:Pl.wbl x≤1048576):
  Calls Tryz.prog 18 #[.pointer (some ⟨b,0,none⟩),.agg #[.string x.kind,.string x.name,.slice a1 x.lines.length c1]] w fun e w'=>e=.returned (.tuple #[])∧BW w0.heap.size b (l++Pl.er x) w'∧KB w0.heap.size b w w'∧w0.heap.size≤w'.heap.size:=by
 have cL:=uh cd;have HA:=uh hA;have qa:=uh qe;have kg:¬ (9223372036854775807<x.kind.size+1):=by unfold Pl.wbl at qe;omega
 obtain⟨wa,aZ⟩:∃ wa,wa=w.alloc (.cells #[.string x.kind,.string x.name,.slice a1 x.lines.length c1] 41):=⟨_,rfl⟩
 obtain⟨bl,ye⟩:∃ bl,bl=w.heap.size:=⟨_,rfl⟩
 have vZ:Hid (Bel w wa):=by show Below _ _ _;rw[aZ];exact ae zR _
 have wj:Hid (al wa bl 41 [.string x.kind,.string x.name,.slice a1 x.lines.length c1]):=by show al _ _ _ _;rw[aZ,ye];exact al.new w [.string x.kind,.string x.name,.slice a1 x.lines.length c1] 41 _ rfl
 have lM:Hid (w0.heap.size≤wa.heap.size):=Nat.le_trans cd.size vZ.out.size;have tY:Hid (KB w0.heap.size b w wa):=KB.of cd.size vZ.out;have Il:=uh (hbw0.later vZ.out);have wI:Hid (bl≠b):=by show _≠_;omega
 obtain⟨z1,dJ⟩:∃ z,(x.kind++{data:=#[32]})=z:=⟨_,rfl⟩
 obtain⟨z2,gH⟩:∃ z,(z1++x.name)=z:=⟨_,rfl⟩
 obtain⟨z3,Br⟩:∃ z,(z2++{data:=#[10]})=z:=⟨_,rfl⟩
 have HHT:Hid (z3.data.toList=Pl.ij x):=by show _=_;rw[← Br,← gH,← dJ];simp[ByteArray.data_append,Pl.ij]
 have e1:z1.size=x.kind.size+1:=by rw[← dJ,ByteArray.size_append];rfl
 have e2:z2.size=x.kind.size+1+x.name.size:=by rw[← gH,ByteArray.size_append,e1]
 have HHS:Hid (z3.size=x.kind.size+x.name.size+2):=by show _=_;rw[← Br,ByteArray.size_append,e2];show _+1=_;omega
 have Ix:=uh (fun X (hX:Bel wa X)=>l8 w0.heap.size b l z3 X (Il.out.later hX) (Nat.le_trans lM.out hX.size) (by rw[HHS.out];omega) (by rw[HHS.out];unfold Pl.wbl at qe;omega));have tM:¬ (9223372036854775807<z1.size+x.name.size):=by rw[e1];unfold Pl.wbl at qe;omega
 have Me:¬ (9223372036854775807<z2.size+1):=by rw[e2];unfold Pl.wbl at qe;omega
 clear e1 e2;have Sj:Hid (x.kind.size+x.name.size≤1048576):=by show _≤_;unfold Pl.wbl at qe;omega
 clear cd hA hbw0 eY qe;go_enter Tryz.func18,Tryz.ntmps18
 go_upto_region 1 with fail
 rw[← aZ,← ye];clear aZ ye;refine RY.ma wa zR (VBk b bl x z1 z2 z3) (DE _ _ _ _ _ _) (fun X=>BW w0.heap.size b (l++Pl.ij x) X∧KB w0.heap.size b w X∧w0.heap.size≤X.heap.size∧al X bl 41 [.string x.kind,.string x.name,.slice a1 x.lines.length c1]) 10 12 (by kernel_rfl) (by kernel_rfl) (by kernel_rfl) (by kernel_rfl) rfl [2,9] (by kernel_rfl) (by kernel_rfl) _ rfl rfl (by kernel_rfl) ?_ ?_ ?_
 ·intro ii o' ho E2 a X hX hk hd;have zbl:=wj.out.later hX;have zbll:=zbl.own.lt;match ii,ho with
  |0,rfl=>
   exact RY.p (.pointer (some ⟨b,0,none⟩)) (by simp[execOp,go_sem,RY.K hk 0 (.pointer (some ⟨b,0,none⟩))])
  |1,rfl=>
   exact RY.p (.pointer (some ⟨b,0,none⟩)) (by simp[execOp,go_sem,RY.E1 hd 0 6])
  |2,rfl=>
   exact RY.p (.pointer (some ⟨b,0,none⟩)) (by simp[execOp,go_sem,RY.E1 hd 1 7])
  |3,rfl=>
   exact RY.p (.pointer (some ⟨bl,0,none⟩)) (by simp[execOp,go_sem,RY.K hk 3 (.pointer (some ⟨bl,0,none⟩))])
  |4,rfl=>
   have e9:=RY.E1 hd 3 9;have ycl_:=zbl.get 0 _ rfl;exact RY.p (.string x.kind) (by simp[execOp,go_sem,e9,ycl_])
  |5,rfl=>
   exact RY.p (.string z1) (by simp[execOp,go_sem,RY.E1 hd 4 10,kg,dJ])
  |6,rfl=>
   exact RY.p (.pointer (some ⟨bl,1,none⟩)) (by simp[execOp,go_sem,RY.K hk 3 (.pointer (some ⟨bl,0,none⟩))])
  |7,rfl=>
   have e12:=RY.E1 hd 6 12;have ycl_:=zbl.get 1 _ rfl;exact RY.p (.string x.name) (by simp[execOp,go_sem,e12,ycl_])
  |8,rfl=>
   exact RY.p (.string z2) (by simp[execOp,go_sem,RY.E1 hd 5 11,RY.E1 hd 7 13,tM,gH])
  |9,rfl=>
   exact RY.p (.string z3) (by simp[execOp,go_sem,RY.E1 hd 8 14,Me,Br])
  |n+10,ho=>omega
 ·intro a X hX hk hd;have e8:=RY.E1 hd 2 8;have e15:=RY.E1 hd 9 15;refine⟨37,#[.pointer (some ⟨b,0,none⟩),.string z3],by simp[go_sem,e8,e15],(Ix.out X hX).mono ?_⟩;rintro e W' ⟨rfl,lO,kh,bR⟩;rw[HHT.out]at lO;exact⟨_,rfl,lO,tY.out.trans ((KB.of lM.out hX).trans kh),bR,kh.box _ _ _ (wj.out.later hX) wI.out (by decide)⟩
 ·intro vs X hK;simp only[RY.aC,Act.put,List.setIfInBounds_toArray,List.set_cons_zero,List.set_cons_succ];generalize vs 6=s6,vs 7=s7,vs 8=s8,vs 9=s9,vs 10=s10,vs 11=s11,vs 12=s12,vs 13=s13,vs 14=s14,vs 15=s15,vs 16=s16;obtain⟨lO,kh,bR,It⟩:=hK;have Mb:=uh lO;have Mt:=uh kh;have Mu:=uh bR;have EW:=uh It;clear lO kh bR It kg tM Me dJ gH Br;have x2:=EW.out.get 2 _ rfl;have xl2:=EW.out.own.lt;go_wp2_with fail
  go_loopw [20] (fun vi wr=>∃ k:Nat,k≤x.lines.length∧vi=.int .i64 k∧BW w0.heap.size b (l++Pl.ij x++Pl.bN (x.lines.take k)) wr∧KB w0.heap.size b w wr∧w0.heap.size≤wr.heap.size) (fun vi _=>x.lines.length - (intOf vi).toNat)
  case atStart=>exact⟨0,zN,rfl,by simpa [Pl.bN]using Mb.out,Mt.out,Mu.out⟩
  case round=>
   obtain⟨k,hk,rfl,lO,kh,bR⟩:=hrel;have mH:=uh lO;have tI:=uh kh;have qW:=uh bR;clear lO kh bR x2 xl2;have wg:Hid ((l++Pl.ij x++Pl.bN (x.lines.take k)).length≤l.length+16777216):=by
    show _≤_;have h1:=Pl.iX (x.lines.take k);have h2:=Pl.dy (fun x:Pl.Ln=>Pl.wln x+1) x.lines k;have h3:=qa.out;unfold Pl.wbl at h3;rw[List.length_append,List.length_append,Pl.AX];omega
   by_cases bd:k<x.lines.length
   rotate_left
   ·obtain rfl:k=x.lines.length:=by omega
    have BD:=uh (fun X (h1:BW w0.heap.size b (l++Pl.ij x++Pl.bN (x.lines.take x.lines.length)) X) (h2:w0.heap.size≤X.heap.size)=>l8 w0.heap.size b _ {data:=#[101,110,100,10]} X h1 h2 (by show _+4≠0;omega) (by show _+4≤_;have:=wg.out;omega));go_wp2_with (go_at_call 37;refine(BD.out _ mH.out qW.out).mono ?_;rintro e w9 ⟨rfl,OW,SQ,Sm⟩)
    go_end0
    refine⟨rfl, ?_,tI.out.trans SQ,Sm⟩;rw[List.take_length]at OW;have e:l++Pl.er x=l++Pl.ij x++Pl.bN x.lines++({data:=#[101,110,100,10]}:ByteArray).data.toList:=by rw[Pl.xy];simp
    rw[e];exact OW
   have Bg:Bel w0 wr:=cL.out.trans tI.out.bel;rcases cE (HA.out.later Bg) with⟨e0,_⟩|⟨p,o,c,hv,hp,fK,aO⟩
   ·omega
   injection hv with g1 _ g3
   subst g1;subst g3;unfold maxLen at fK;obtain⟨ay,cy,hg,qP⟩:=aO k bd;obtain⟨y,hy⟩:∃ y,y=x.lines.getD k Pl.aK:=⟨_,rfl⟩
   have HN:Hid (Pl.bN (x.lines.take (k+1))=Pl.bN (x.lines.take k)++[32,32]++Pl.dw y++[10]):=by
    show _=_;rw[Pl.cX Pl.aK x.lines k bd,← hy];simp[Pl.bN]
   have Li:Hid (Pl.wln y≤1048576):=by
    show _≤_;have e:x.lines.getD k Pl.aK=x.lines[k]:=by simp[bd]
    have:=Pl.cW (fun x:Pl.Ln=>Pl.wln x+1) x.lines _ (List.getElem_mem bd);have h3:=qa.out;unfold Pl.wbl at h3;rw[hy,e];omega
   rw[← hy]at hg qP;obtain⟨LK,Mw⟩:∃ LK,LK=l++Pl.ij x++Pl.bN (x.lines.take k):=⟨_,rfl⟩
   have BU:=uh Mw;rw[← Mw]at mH wg;have Jg:Hid (Raw w0 bB [.row y.ws.length (txD y.ws)] [.slice ay y.ws.length cy]):=by
    rcases cE HA.out with⟨e0,_⟩|⟨p',o',c',FH,QZ,_,LC⟩
    ·omega
    injection FH with g1' _ _
    injection g1' with g1'
    injection g1' with e1 e2 _
    subst e1;subst e2;obtain⟨ay',cy',x9,OO⟩:=LC k bd;rw[← hy]at x9 OO;have q1:=aE (aB x9 QZ Bg) 1 _ rfl;have q2:=aE hg 1 _ rfl;rw[q1]at q2;injection q2 with q2
    rw[← q2];exact OO
   have y0:wr.cell? ⟨p,o+k*2,none⟩=some (.string y.key):=aE hg 0 _ rfl;have y1:wr.cell? ⟨p,o+k*2+1,none⟩=some (.slice ay y.ws.length cy):=aE hg 1 _ rfl;have ec:(0:Int)≤(k:Int):=by omega
   have dP:(k:Int)<(x.lines.length:Int):=by omega
   have jI:Hid ((Pl.dw y).length≤3*1048576):=Nat.le_trans (Pl.mq y) (by have:=Li.out;omega);clear aO hg qP hy Bg Mw;obtain⟨wy,Ii⟩:∃ wy,wy=wr.alloc (.cells #[.string y.key,.slice ay y.ws.length cy] 46):=⟨_,rfl⟩
   obtain⟨by_,ud⟩:∃ by_,by_=wr.heap.size:=⟨_,rfl⟩
   have LP:Hid (Bel wr wy):=by show Below _ _ _;rw[Ii];exact ae zR _
   have M0:Hid (al wy by_ 46 [.string y.key,.slice ay y.ws.length cy]):=by show al _ _ _ _;rw[Ii,ud];exact al.new wr [.string y.key,.slice ay y.ws.length cy] 46 _ rfl
   have HNY:Hid (by_≠b):=by
    show _≠_;obtain⟨_,p2,v2,_,q2,_⟩:=mH.out;have:=q2.own.lt;omega
   go_upto_region 5 with fail
   rw[← Ii,← ud];clear Ii ud y0 y1;have HLY:Hid (w0.heap.size≤wy.heap.size):=Nat.le_trans qW.out LP.out.size;have nQ:=uh (l8 w0.heap.size b LK {data:=#[32,32]} wy (mH.out.later LP.out) HLY.out (by show _+2≠0;omega) (by show _+2≤_;have:=wg.out;omega));go_wp2_with fail
   refine nQ.out.mono ?_;rintro e w5 ⟨rfl,Lx,L4,hlo5⟩;have Lq:=uh (L4.box _ _ _ M0.out HNY.out (by decide));have HK5:Hid (KB w0.heap.size b w w5):=(tI.out.trans (KB.of qW.out LP.out)).trans L4;have z0:=Lq.out.get 0 _ rfl;have z1:=Lq.out.get 1 _ rfl;have zl:=Lq.out.own.lt;have zy:=uh (NG w0 w5 b (LK++({data:=#[32,32]}:ByteArray).data.toList) y ay cy (cL.out.trans HK5.out.bel) Jg.out Lx (by obtain⟨_,p2,v2,_,q2,_⟩:=Lx;exact q2.own.lt) (by rw[List.length_append];show _+2≠0;omega) (by rw[List.length_append];show _+2≤_;have:=wg.out;omega) Li.out);clear Lx L4 nQ;go_wp2_with fail
   refine zy.out.mono ?_;rintro e w6 ⟨rfl,N2,Ot,Su⟩;have yx:=uh (l8 w0.heap.size b _ {data:=#[10]} w6 N2 Su (by show _+1≠0;omega) (by rw[List.length_append,List.length_append];show _+2+_+1≤_;have:=wg.out;have:=jI.out;omega));have HK6:=uh (HK5.out.trans Ot);clear N2 Ot zy z0 z1 zl;go_wp2_with fail
   refine yx.out.mono ?_;rintro e w7 ⟨rfl,Bw,EZ,K3⟩;have SK:Hid (BW w0.heap.size b (l++Pl.ij x++Pl.bN (x.lines.take (k+1))) w7):=by
    show BW _ _ _ _;have e:l++Pl.ij x++Pl.bN (x.lines.take (k+1))=LK++({data:=#[32,32]}:ByteArray).data.toList++Pl.dw y++({data:=#[10]}:ByteArray).data.toList:=by rw[HN.out,BU.out];simp
    rw[e];exact Bw
   have Se:=uh (HK6.out.trans EZ);clear Bw EZ yx;go_wp2;go_roundw
   case rel=>exact⟨k+1,by omega,by go_num,SK.out,Se.out,K3⟩
   case measure=>simp[intOf];omega
end Go.Proofs.YtopjjknojnfhmaaGreatDoor
