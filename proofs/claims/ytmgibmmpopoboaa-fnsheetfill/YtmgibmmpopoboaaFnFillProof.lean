import Derived.ProofKit
import Derived.OpenShut
import Derived.ShutString
import Derived.ChangeOld
import Derived.SliceStrings
import Derived.Deep.Slices
import Derived.ChangeSlices
import Derived.Test.YtmgibmmpopoboaaEDq
import Derived.Test.YtmgibmmpopoboaaRows
namespace Go.Proofs.Ytmgibmmpopoboaa
set_option maxRecDepth 8000
set_option maxHeartbeats 40000000
open Go.RowKit Go.Deep
theorem aD.frR {R:Nat} {W W':World} {p:Nat} {cs:List Value} (h:aD W p cs) (hF:Fr R W W') (hl:R<p):aD W' p cs:=⟨zL h.lt hF.bel.size,cM h.at_ fun j _=>World.cell?_of_block (a:=⟨p,0+j,none⟩) (hF.blk p hl h.lt)⟩
theorem vH (hS:iV Try.prog 43) (R:Nat) (v:Value) (len p:Nat) (W0:World) (h:Rd W0 R v len p) (hp:p≤100000000000):
  Calls Try.prog 17 #[.pointer (some ⟨R,0,none⟩)] W0 fun e W'=>(∃ s sv,e=.returned (.agg #[sv])∧fq W' W0.heap.size s sv∧Sw s)∧Fr R W0 W'∧∃ q,q≤p+50000000∧Rd W' R v len q:=by
 have DP:=uh hS;have km:=uh h;clear h hS;obtain⟨wa,aS⟩:∃ wa,wa=W0.alloc (.cells #[.slice none 0 0] 25):=⟨_,rfl⟩
 have gh:Bel W0 wa:=by rw[aS];exact ah zR _
 have jB:Hid (R<W0.heap.size):=km.out.own.lt;have kW:aK wa W0.heap.size 25 [.slice none 0 0]:=by rw[aS];exact aK.new _ _ _ _ rfl
 have vV:Hid (W0.heap.size<wa.heap.size):=by show _<_;rw[aS];simp
 have jP:=uh gh;have G7:=uh (km.out.ae gh);have tj:=uh kW;have HL:=uh (wE R v len p wa G7.out (by omega));go_enter Try.func17,Try.ntmps17
 go_upto_region 1 with fail
 rw[← aS];clear aS gh kW;go_wp2_with fail
 refine HL.out.mono ?_;rintro e W1 ⟨⟨s,sv,rfl,hs,hsd⟩,oF,q1,Ce,lg⟩;obtain⟨sa,sc,D5⟩:=hs.raw.aP;subst D5;obtain⟨w2,kX⟩:∃ w2,w2=W1.alloc (.cells #[.slice sa s.length sc] 25):=⟨_,rfl⟩
 obtain⟨bS,KB⟩:∃ bS,bS=W1.heap.size:=⟨_,rfl⟩
 have dP:Bel W1 w2:=by rw[kX];exact ah zR _
 have hx2:aD w2 bS [.slice sa s.length sc]:=by rw[kX,KB];exact aD.new W1 #[.slice sa s.length sc] _ _ rfl
 have BM:W0.heap.size<bS:=by rw[KB];have:=vV.out;have:=oF.bel.size;omega
 have HOX:=uh (hs.ae dP);have LY:=uh hsd;have eO:=uh (lg.ae dP);have AZ:Hid (Fr R W0 w2):=((Fr.bh jP.out jB.out).trans oF).trans (Fr.bh dP lg.own.lt);have EB:=uh ((tj.out.fr oF jB.out).ae dP);have pS:=uh hx2;have HBS:=uh BM;have oI:Hid (W0.heap.size<wa.heap.size):=vV.out;have HP:=uh (bp R v len q1 16 w2 eO.out (by omega) (by omega));go_upto_region 2 with fail
 rw[← kX,← KB];clear kX KB dP hx2 BM hs hsd oF lg HL tj vV jP;go_wp2_with fail
 refine HP.out.mono ?_;rintro e W3 ⟨⟨rm,rfl,ia⟩,iK,jb⟩;obtain⟨m,rfl,hm⟩:=ia.nat;have eN:R<wa.heap.size:=by have:=oI.out;have:=jB.out;omega
 have K8:=uh (HOX.out.aY (iK.eJ eO.out jb) (fun b e=>by have:b=R:=e;omega));have cC:=uh (EB.out.fr iK jB.out);have mQ:Hid (aD W3 bS [.slice sa s.length sc]):=pS.out.frR iK (by have:=HBS.out;have:=jB.out;omega);have B8:=uh jb;have Hf:=uh (AZ.out.trans iK);clear ia hm iK jb HP HOX EB pS eO AZ eN km G7;by_cases m0:m=0
 rotate_left
 ·have d0:((m:Int)==0)=false:=by simp;omega
  have HO:Hid (fq W3 wa.heap.size s (.slice sa s.length sc)):=CB K8.out (by have:=LY.out.len;unfold maxLen;omega);have JZ:=uh LY.out.sw;have tf:=Hf;have EO:=oI;go_upto_region 4 with fail
  have zx:=mQ.out.at_;have zl:=mQ.out.lt;have bG:W3.there W0.heap.size 0 (#[.slice sa s.length sc]:Array Value).size:=aR cC.out.own _ _ (by simp);have uQ:=cC.out.own.lt;obtain⟨we,bj⟩:∃ we,we=W3.setCells W0.heap.size 0 [.slice sa s.length sc]:=⟨_,rfl⟩
  have dv:we.rangeAt W0.heap.size 0 [.slice sa s.length sc]:=by rw[bj];exact World.rangeAt_setCells_same _ _ _ _ bG
  have hm:Marks (fun b=>b=W0.heap.size) W3 we:=by rw[bj];exact aN (S:=fun b=>b=W0.heap.size) rfl _ _ _
  have cH:Hid (fq we W0.heap.size s (.slice sa s.length sc)∧Fr R W0 we∧Rd we R v len (q1+1)):=⟨fq.lower (HO.out.aY hm (fun b e=>by have:b=W0.heap.size:=e;have:=EO.out;omega)) (by have:=EO.out;omega),tf.out.mks hm (fun b e=>by have:b=W0.heap.size:=e;omega) jB.out,B8.out.mks hm (fun b e=>by have:b=W0.heap.size:=e;have:=jB.out;omega)⟩
  clear hm;go_wp2_with (first|(refine wpList_load_mid rfl 25 _ rfl bS 0 rfl [.slice sa s.length sc] _ zx Try.underlying25 rfl (by kernel_rfl) ?_)|(refine wpList_store_mid rfl 25 _ _ rfl W0.heap.size 0 #[.slice sa s.length sc] rfl rfl bG (by kernel_rfl) (by simp[Value.oneCell']) ?_))
  first|rw[← bj]|(simp only[List.toList_toArray];rw[← bj])
  try simp only[Act.put]
  refine bodyPost_ret (v:=.agg #[.slice sa s.length sc]) (by simp[results,Try.results17,asAddr,run_loadVar_mid (P:=Try.prog) _ _ _ 25 [.slice sa s.length sc] _ dv Try.underlying25 rfl (by kernel_rfl)]) rfl ?_;exact⟨⟨s,_,rfl,cH.out.1,JZ.out⟩,cH.out.2.1,(q1+1),by omega,cH.out.2.2⟩
 subst m0;have vS:=uh (DP.out R v len (q1+1) W3 s (.slice sa s.length sc) B8.out (by omega) K8.out.raw LY.out);go_upto_region 3 with fail
 have zx:=mQ.out.at_;have zl:=mQ.out.lt;go_wp2_with (refine wpList_load_mid rfl 25 _ rfl bS 0 rfl [.slice sa s.length sc] _ zx Try.underlying25 rfl (by kernel_rfl) ?_)
 refine vS.out.mono ?_;rintro e W4 ⟨⟨s',Ik,rfl,DE,hw'⟩,Bm,q4,hq4,ID⟩;obtain⟨ta,tc,htv⟩:=DE.len;subst htv;have EO:Hid (W0.heap.size<W3.heap.size):=by show _<_;have:=mQ.out.lt;have:=HBS.out;omega
 have HO:=uh DE;have JZ:=uh hw';have mv:=uh ID;have tf:=uh (Hf.out.trans Bm);replace cC:=uh (cC.out.fr Bm jB.out)
 clear DE hw' Bm ID vS mQ K8 Hf zx zl;have bG:W4.there W0.heap.size 0 (#[.slice ta s'.length tc]:Array Value).size:=aR cC.out.own _ _ (by simp);have uQ:=cC.out.own.lt;obtain⟨we,bj⟩:∃ we,we=W4.setCells W0.heap.size 0 [.slice ta s'.length tc]:=⟨_,rfl⟩
 have dv:we.rangeAt W0.heap.size 0 [.slice ta s'.length tc]:=by rw[bj];exact World.rangeAt_setCells_same _ _ _ _ bG
 have hm:Marks (fun b=>b=W0.heap.size) W4 we:=by rw[bj];exact aN (S:=fun b=>b=W0.heap.size) rfl _ _ _
 have cH:Hid (fq we W0.heap.size s' (.slice ta s'.length tc)∧Fr R W0 we∧Rd we R v len q4):=⟨fq.lower (HO.out.aY hm (fun b e=>by have:b=W0.heap.size:=e;have:=EO.out;omega)) (by have:=EO.out;omega),tf.out.mks hm (fun b e=>by have:b=W0.heap.size:=e;omega) jB.out,mv.out.mks hm (fun b e=>by have:b=W0.heap.size:=e;have:=jB.out;omega)⟩
 clear hm;go_wp2_with (refine wpList_store_mid rfl 25 _ _ rfl W0.heap.size 0 #[.slice ta s'.length tc] rfl rfl bG (by kernel_rfl) (by simp[Value.oneCell']) ?_)
 first|rw[← bj]|(simp only[List.toList_toArray];rw[← bj])
 try simp only[Act.put]
 refine bodyPost_ret (v:=.agg #[.slice ta s'.length tc]) (by simp[results,Try.results17,asAddr,run_loadVar_mid (P:=Try.prog) _ _ _ 25 [.slice ta s'.length tc] _ dv Try.underlying25 rfl (by kernel_rfl)]) rfl ?_;exact⟨⟨s',_,rfl,cH.out.1,JZ.out⟩,cH.out.2.1,q4,by omega,cH.out.2.2⟩
theorem aK.frL {R:Nat} {W W':World} {p:Nat} {u:TypeId} {cs:List Value} (h:aK W p u cs) (hF:Fr R W W') (hl:p<R):aK W' p u cs:=by
 have hb:=hF.bel.block p hl;obtain⟨pU,h1,h2⟩:=h.own;exact⟨⟨pU,hb.trans h1,h2⟩,cM h.at_ fun j _=>World.cell?_of_block (a:=⟨p,0+j,none⟩) hb⟩
theorem yI (hS:iV Try.prog 43) (v:Value) (W:World) (h:ij W v):
  Calls Try.prog 4 #[v] W fun e W'=>(∃ s sv,e=.returned (.agg #[sv])∧Raw W' aV [aW s] [sv]∧Sw s)∧Bel W W':=by
 have DP:=uh hS;obtain⟨a,n0,c,hv⟩:∃ a n c,v=.slice a n c:=by rcases h with⟨a,c,e⟩|⟨b,off,n,cap,e,_⟩;exact⟨_,_,_,e⟩;exact⟨_,_,_,e⟩
 subst hv;obtain⟨wa,aS⟩:∃ wa,wa=W.alloc (.cells #[.slice none 0 0] 25):=⟨_,rfl⟩
 have gh:Bel W wa:=by rw[aS];exact ah zR _
 have kW:aK wa W.heap.size 25 [.slice none 0 0]:=by rw[aS];exact aK.new _ _ _ _ rfl
 have vV:Hid (wa.heap.size=W.heap.size+1):=by show _=_;rw[aS];simp
 have HO:=uh (sS _ wa (h.ae gh));have tj:=uh kW;have jP:=uh gh;clear h hS gh kW;go_enter Try.func4,Try.ntmps4
 go_upto_region 1 with fail
 rw[← aS];clear aS;go_wp2_with fail
 refine HO.out.mono ?_;rintro e W1 ⟨⟨rv,len,rfl,hR⟩,bZ⟩;obtain⟨R,GY⟩:∃ R,R=wa.heap.size:=⟨_,rfl⟩
 rw[← GY]at hR ⊢;have jB:Hid (R=W.heap.size+1):=by show _=_;rw[GY,vV.out]
 have EC:=uh (tj.out.ae bZ);have fz:=uh (ai jP.out bZ);have HR:=uh hR;have HA:=uh (vH DP.out R rv len 0 W1 HR.out (by omega));clear GY hR bZ HO tj jP;go_wp2_with fail
 refine HA.out.mono ?_;rintro e W2 ⟨⟨s,sv,rfl,ho,hw⟩,hF,q,_,eL⟩;obtain⟨ta,tc,D5⟩:=ho.len;subst D5;have bN:W.heap.size<W1.heap.size:=by have:=HR.out.own.lt;have:=jB.out;omega
 have cC:=uh (EC.out.frL hF (by have:=jB.out;omega));have bG:W2.there W.heap.size 0 (#[.slice ta s.length tc]:Array Value).size:=aR cC.out.own _ _ (by simp);have uQ:=cC.out.own.lt;obtain⟨we,bj⟩:∃ we,we=W2.setCells W.heap.size 0 [.slice ta s.length tc]:=⟨_,rfl⟩
 have dv:we.rangeAt W.heap.size 0 [.slice ta s.length tc]:=by rw[bj];exact World.rangeAt_setCells_same _ _ _ _ bG
 have hm:Marks (fun b=>b=W.heap.size) W2 we:=by rw[bj];exact aN (S:=fun b=>b=W.heap.size) rfl _ _ _
 have EA:Bel W we:=by
  have e1:Below R W1 W2:=hF.bel;have e2:Below W.heap.size W1 W2:=e1.mono (by have:=jB.out;omega);have e3:Bel W W2:=fz.out.trans e2;rw[bj];exact cG zE _ _ _ e3
 have cH:Hid (Raw we aV [aW s] [.slice ta s.length tc]∧Bel W we∧Sw s):=⟨(ho.aY hm (fun b e=>by have:b=W.heap.size:=e;omega)).raw,EA,hw⟩
 clear hm EA ho hw hF eL bN HA fz HR EC;go_wp2_with (refine wpList_store_mid rfl 25 _ _ rfl W.heap.size 0 #[.slice ta s.length tc] rfl rfl bG (by kernel_rfl) (by simp[Value.oneCell']) ?_)
 first|rw[← bj]|(simp only[List.toList_toArray];rw[← bj])
 try simp only[Act.put]
 refine bodyPost_ret (v:=.agg #[.slice ta s.length tc]) (by simp[results,Try.results4,asAddr,run_loadVar_mid (P:=Try.prog) _ _ _ 25 [.slice ta s.length tc] _ dv Try.underlying25 rfl (by kernel_rfl)]) rfl ?_;exact⟨⟨s,_,rfl,cH.out.1,cH.out.2.2⟩,cH.out.2.1⟩
namespace RY
theorem wV {P:Program} {id:Nat} {Q:Exit→Act→World→Prop} {a0:Act} {w:World} {l:List Oper} (V:Nat→Value→Prop) (T:(Nat→Bool)→(Nat→Value)→World→Prop) (hm:P.follows .mixedOrders=true)
  (hasc:asc .any l.toArray=true) (hap:cZ l=true) (dc:dr l a0.tmps.size=true) (h0:∀ vals,T (fun _=>false) vals w.drew)
  (jc:∀ (up:Nat→Bool) (vals:Nat→Value) (i:Nat) (o:Oper),l[i]? =some o→up i=false→(∀ (j:Nat) (o':Oper) (e:_),l[j]? =some o'→e∈o'.after→Region.binds .any e=true→up j=true→up e.on=true)→(∀ e∈o.after,Region.binds .any e=true→up e.on=true)→
   ∀ (a:Act) (W:World),(∀ k,cW l k=true→a.eval (.tmp k)=a0.eval (.tmp k))→
   (∀ (j:Nat) (o':Oper) (k:Nat),l[j]? =some o'→o'.dst=some k→(∃ e∈o.after,e.on=j∧Region.binds .any e=true)→up j=true∧a.eval (.tmp k)=vals j∧V j (vals j))→T up vals W→
   (∃ u W',(execOp a.eval o).run P W=.ok (.value u) W'∧o.dst.isSome=true∧V i u∧T (fun j=>(j==i)||up j) (fun j=>if j=i then u else vals j) W')∨
   (∃ W',(execOp a.eval o).run P W=.ok .skip W'∧o.dst=none∧T (fun j=>(j==i)||up j) vals W')∨
   (∃ f args,(execOp a.eval o).run P W=.ok (.enter f args) W∧o.dst.isSome=true∧Calls P f args W fun e W'=>∃ u,e=.returned u∧V i u∧T (fun j=>(j==i)||up j) (fun j=>if j=i then u else vals j) W'))
  (hend:∀ (up:Nat→Bool) (vals vs:Nat→Value) (W:World),(∀ i,i<l.length→up i=true)→(∀ (i:Nat) (o:Oper) (k:Nat),l[i]? =some o→o.dst=some k→vs k=vals i∧V i (vals i))→T up vals W→Q .normal (aE l a0 vs) W):
  (Code.region id l.toArray true).wp P Q a0 w:=by
 refine wp_region_any hm ?_;refine eY (fun L a W=>jF l a0 (fun _ _=>True) (fun j u _=>V j u) L a W∧T (fun j=>L.getD j false) (valOf l a) W) ?_ ?_ _ _ _ _ ?_ (eI.none _ (cD _)) ?_
 ·rintro L a W i ⟨h,hT⟩ hc hi;obtain⟨gf,o,oG,bC⟩:=mem_ready.1 hi;have ho:l[i]? =some o:=by simpa using oG
  have hg:=(bF dc ho).1;rcases jc (fun j=>L.getD j false) (valOf l a) i o ho (jt gf) (fun j o' e hj he hb hu=>hc j o' e (by simpa using hj) he hb hu) (fun e he hb=>bC e he hb) a W (fun k hk=>h.aY hk)
   (fun j o' k hj hk ⟨e,he,mF,hb⟩=>by
    have hu:L.getD j false=true:=by rw[← mF];exact bC e he hb
    exact⟨hu,(ck hj hk).symm,by rw[ck hj hk];exact h.new j o' k hj hk hu⟩) hT with⟨u,W',hr,hd,hV,o4⟩|⟨W',hr,hd,o4⟩|⟨f,args,hr,hd,gk⟩
  ·refine eW oG hg hr ⟨h.step hap dc ho gf trivial (fun _ _ x=>x) (fun _=>hV), ?_⟩;obtain⟨q,hq⟩:=Option.isSome_iff_exists.1 hd;rw[fW gf,hq,fb hap ho hq (by rw[h.sz];exact(bF dc ho).2 q hq)];exact o4
  ·refine jw oG hg hr ⟨h.step hap dc ho gf trivial (fun _ _ x=>x) (fun hs=>by rw[hd]at hs;cases hs), ?_⟩;rw[fW gf,hd,ko];exact o4
  ·refine fU oG hg hr (gk.mono ?_);rintro e W' ⟨u,rfl,hV,o4⟩;refine⟨u,rfl,h.step hap dc ho gf trivial (fun _ _ x=>x) (fun _=>hV), ?_⟩;obtain⟨q,hq⟩:=Option.isSome_iff_exists.1 hd;rw[fW gf,hq,fb hap ho hq (by rw[h.sz];exact(bF dc ho).2 q hq)];exact o4
 ·rintro L a W ⟨h,hT⟩ hr;have bC:∀ i,i<l.length→L.getD i false=true:=fun i hi=>lK hr hasc (by simpa using h.len) i (by simpa using hi);have lt:∀ {i:Nat} {o:Oper},l[i]? =some o→i<l.length:=fun hi=>(List.getElem?_eq_some_iff.1 hi).1;have e:a=aE l a0 (fun k=>a.eval (.tmp k)):=by
   have hs:∀ o∈l,∀ q,o.dst=some q→q<a0.tmps.size:=fun o ho q hq=>by
    obtain⟨i,hi⟩:=List.getElem?_of_mem ho;exact(bF dc hi).2 q hq
   refine ju (by rw[da];exact h.df) (by rw[dL];exact h.sz) fun k=> ?_;rw[dp l a0 _ k hs];by_cases hk:∃ o∈l,o.dst=some k
   ·rw[if_pos hk]
   ·rw[if_neg hk];refine h.old k fun i o hi hd=>absurd ⟨o,List.mem_of_getElem? hi,hd⟩ hk
  have:=hend (fun j=>L.getD j false) (valOf l a) (fun k=>a.eval (.tmp k)) W bC (fun i o k hi hd=>⟨(ck hi hd).symm,by rw[ck hi hd];exact h.new i o k hi hd (bC i (lt hi))⟩) hT;rw[← e]at this;exact this
 ·refine⟨⟨by simp,trivial,rfl,rfl,fun _ _=>rfl,fun i o k hi _ hl=> ?_⟩, ?_⟩
  ·rw[cD]at hl;cases hl
  ·have:(fun j=>(Array.replicate l.toArray.size false).getD j false)=fun _=>false:=by funext j;exact cD _ _
   rw[this];exact h0 _
 ·unfold left;exact Nat.le_trans List.countP_le_length (by simp)
theorem j3 {P:Program} {id:Nat} {Q:Exit→Act→World→Prop} {a0:Act} {w:World} {l:List Oper} (I:Nat→World→Prop) (V:Nat→Value→World→Prop) (S:World→Prop) (st:Nat)
  (hm:P.follows .mixedOrders=true) (hasc:asc .any l.toArray=true) (hap:cZ l=true) (dc:dr l a0.tmps.size=true) (h0:I 0 w.drew)
  (jc:∀ (i:Nat) (o:Oper),l[i]? =some o→∀ (a:Act) (W:World) (c:Nat),c≤l.length→I c W→(∀ k,cW l k=true→a.eval (.tmp k)=a0.eval (.tmp k))→
   (∀ (j:Nat) (o':Oper) (k:Nat),l[j]? =some o'→o'.dst=some k→(∃ e∈o.after,e.on=j∧Region.binds .any e=true)→V j (a.eval (.tmp k)) W)→
   (i≠st∧o.dst.isSome=true∧((∃ u W',(execOp a.eval o).run P W=.ok (.value u) W'∧(I (c+1) W'∧(∀ j u,V j u W→V j u W')∧(S W→S W'))∧V i u W')∨
    (∃ f args,(execOp a.eval o).run P W=.ok (.enter f args) W∧Calls P f args W fun e W'=>∃ u,e=.returned u∧(I (c+1) W'∧(∀ j u,V j u W→V j u W')∧(S W→S W'))∧V i u W')))∨
   (i=st∧o.dst=none∧∃ W',(execOp a.eval o).run P W=.ok .skip W'∧(I (c+1) W'∧(∀ j u,V j u W→V j u W')∧(S W→S W'))∧S W'))
  (GL:st<l.length) (kY:∀ {o:Oper},l[st]? =some o→o.dst=none)
  (hend:∀ (vs:Nat→Value) (W:World) (c:Nat),c≤l.length→I c W→S W→(∀ (i:Nat) (o:Oper) (k:Nat),l[i]? =some o→o.dst=some k→V i (vs k) W)→Q .normal (aE l a0 vs) W):
  (Code.region id l.toArray true).wp P Q a0 w:=by
 refine wV (fun _ _=>True) (fun up vals W=>I ((List.range l.length).countP up) W∧(∀ j,j<l.length→up j=true→j≠st→V j (vals j) W)∧(up st=true→S W)) hm hasc hap dc ?_ ?_ ?_
 ·intro vals;refine⟨?_,fun j _ h=>(by cases h),fun h=>(by cases h)⟩;have:(List.range l.length).countP (fun _=>false)=0:=by simp
  rw[this];exact h0
 ·intro up vals i o ho hi gk hrd a W hk fB hT;have lr:i<l.length:=(List.getElem?_eq_some_iff.1 ho).1;obtain⟨hI,hV,hS⟩:=hT;have Cb:=sg up l.length;have jU:=uo up i l.length lr hi;have nx:∀ (u:Value) (W':World),(I ((List.range l.length).countP up+1) W'∧(∀ j u,V j u W→V j u W')∧(S W→S W'))→i≠st→V i u W'→I ((List.range l.length).countP (fun j=>(j==i)||up j)) W'∧(∀ j,j<l.length→(fun j=>(j==i)||up j) j=true→j≠st→V j ((fun j=>if j=i then u else vals j) j) W')∧((fun j=>(j==i)||up j) st=true→S W'):=fun u W' ⟨h1,h2,h3⟩ iM oe=>by
   refine⟨by rw[jU];exact h1,fun j hj hu hjs=> ?_,fun hu=> ?_⟩
   ·by_cases e:j=i
    ·subst e;show V j (if j=j then u else vals j) W';rw[if_pos rfl];exact oe
    ·have Kj:up j=true:=by simpa [e]using hu
     show V j (if j=i then u else vals j) W';rw[if_neg e];exact h2 _ _ (hV j hj Kj hjs)
   ·have e:st≠i:=fun e=>iM e.symm;have Kj:up st=true:=by simpa [e]using hu
    exact h3 (hS Kj)
  rcases jc i o ho a W _ Cb hI hk (fun j o' k hj jA hd=>by
    obtain⟨q1,q2,_⟩:=fB j o' k hj jA hd;have Bb:j<l.length:=(List.getElem?_eq_some_iff.1 hj).1;rw[q2];refine hV j Bb q1 fun e=> ?_;subst e;have q:=kY hj;rw[jA]at q;cases q) with⟨iM,hd,⟨u,W',hr,hn,oe⟩|⟨f,args,hr,hc⟩⟩|⟨he,hd,W',hr,⟨h1,h2,h3⟩,hSW⟩
  ·exact Or.inl ⟨u,W',hr,hd,trivial,nx u W' hn iM oe⟩
  ·refine Or.inr (Or.inr ⟨f,args,hr,hd,hc.mono ?_⟩);rintro e W' ⟨u,rfl,hn,oe⟩;exact⟨u,rfl,trivial,nx u W' hn iM oe⟩
  ·subst he;refine Or.inr (Or.inl ⟨W',hr,hd,by rw[jU];exact h1,fun j hj hu hjs=> ?_,fun _=>hSW⟩);have Kj:up j=true:=by simpa [hjs]using hu
   exact h2 _ _ (hV j hj Kj hjs)
 ·intro up vals vs W bC fK hT;refine hend vs W _ (sg up l.length) hT.1 (hT.2.2 (bC st GL)) fun i o k hi hd=> ?_;have lr:i<l.length:=(List.getElem?_eq_some_iff.1 hi).1;rw[(fK i o k hi hd).1];refine hT.2.1 i lr (bC i lr) fun e=> ?_;subst e;have q:=kY hi;rw[hd]at q;cases q
end RY
theorem Rd.res {X X':World} {R q:Nat} {v:Value} {n p:Nat} {u:TypeId} {a:Option Addr} {k c:Nat} (h:Rd X R v n p) (hx:aK X q u [.slice a k c]) (hq:q<R) (m:Marks (fun b=>b=q) X X'):Rd X' R v n p:=by
 have hR:¬ (fun b=>b=q) R:=fun e=>by have:R=q:=e;omega
 refine⟨m.own _ _ _ h.own,(m.cell h.own.lt hR _).trans h.c0,(m.cell h.own.lt hR _).trans h.c1,h.len, ?_⟩;rcases h.code with hc|⟨b,off,cap,rfl,hb,fZ⟩
 ·exact Or.inl hc
 ·refine Or.inr ⟨b,off,cap,rfl,hb,fun i hi=> ?_⟩;obtain⟨x,h0,h1,Gt⟩:=fZ i hi;have ED:b≠q:=fun e=>by
   subst e;obtain⟨cs,e1,e2⟩:=hx.own;have hz:=hx.get 0 _ rfl;by_cases z:off+i=0
   ·rw[z,hz]at Gt;cases Gt
   ·have:X.cell? ⟨b,off+i,none⟩=none:=by
     simp[World.cell?,e1];simp at e2;omega
    rw[this]at Gt;cases Gt
  exact⟨x,h0,h1,(m.cell (by have:=h.own.lt;omega) ED _).trans Gt⟩
structure GG (W:World) (R bs bb:Nat) (s:List Pl.Bl) (sa:Option Addr) (sc lo:Nat) (b:Pl.Bl) (la:Option Addr) (lc:Nat) (v:Value) (len q c lu:Nat) (l:List Pl.Ru) (rv:Value) (X:World):Prop where
 bel:Bel W X
 res:∃ a k m,aK X W.heap.size 25 [.slice a k m]
 xs:aD X bs [.slice sa s.length sc]
 sh:fq X lo s (.slice sa s.length sc)
 bx:aK X bb 32 [.string b.kind,.string b.name,.slice la b.lines.length lc]
 rd:∃ p,p≤q+c∧Rd X R v len p
 ru:gp lu X [.row 40 aC] [bQ l] [rv]
 ord:W.heap.size<R∧R<bs∧R<bb∧R<lo∧R<lu
theorem GG.up {W:World} {R bs bb:Nat} {s:List Pl.Bl} {sa:Option Addr} {sc lo:Nat} {b:Pl.Bl} {la:Option Addr} {lc:Nat} {v:Value} {len q c lu:Nat} {l:List Pl.Ru} {rv:Value} {X:World} (h:GG W R bs bb s sa sc lo b la lc v len q c lu l rv X):GG W R bs bb s sa sc lo b la lc v len q (c+1) lu l rv X:=by
 obtain⟨p,hp,hr⟩:=h.rd;exact⟨h.bel,h.res,h.xs,h.sh,h.bx,⟨p,by omega,hr⟩,h.ru,h.ord⟩
theorem GG.drew {W:World} {R bs bb:Nat} {s:List Pl.Bl} {sa:Option Addr} {sc lo:Nat} {b:Pl.Bl} {la:Option Addr} {lc:Nat} {v:Value} {len q c lu:Nat} {l:List Pl.Ru} {rv:Value} {X:World} (h:GG W R bs bb s sa sc lo b la lc v len q c lu l rv X):GG W R bs bb s sa sc lo b la lc v len q c lu l rv X.drew:=by
 obtain⟨p,hp,hr⟩:=h.rd;obtain⟨xa,xk,xm,hx⟩:=h.res;have hb:Bel X X.drew:=Below.drew zR;exact⟨ai h.bel hb,⟨xa,xk,xm,hx.ae hb⟩,h.xs.ae hb,h.sh.ae hb,h.bx.ae hb,⟨p,hp,hr.ae hb⟩,h.ru.ae hb,h.ord⟩
theorem GG.fr {W:World} {R bs bb:Nat} {s:List Pl.Bl} {sa:Option Addr} {sc lo:Nat} {b:Pl.Bl} {la:Option Addr} {lc:Nat} {v:Value} {len q c lu:Nat} {l:List Pl.Ru} {rv:Value} {X X':World} {p p':Nat} (h:GG W R bs bb s sa sc lo b la lc v len q c lu l rv X) (hF:Fr R X X') (h1:Rd X R v len p) (h2:Rd X' R v len p') (hp:p'≤q+(c+1)):GG W R bs bb s sa sc lo b la lc v len q (c+1) lu l rv X':=by
 have ho:=h.ord;obtain⟨xa,xk,xm,hx⟩:=h.res;exact⟨h.bel.trans (hF.bel.mono (by omega)),⟨xa,xk,xm,hx.frL hF ho.1⟩,h.xs.frR hF ho.2.1,h.sh.fr hF h1 h2 ho.2.2.2.1,h.bx.fr hF ho.2.2.1,⟨p',hp,h2⟩,h.ru.aY (hF.eJ h1 h2) (fun b e=>by have:b=R:=e;omega),ho⟩
theorem GG.st {W:World} {R bs bb:Nat} {s:List Pl.Bl} {sa:Option Addr} {sc lo:Nat} {b:Pl.Bl} {la:Option Addr} {lc:Nat} {v:Value} {len q c lu:Nat} {l:List Pl.Ru} {rv:Value} {X:World} (h:GG W R bs bb s sa sc lo b la lc v len q c lu l rv X) (ua:Option Addr) (uk um:Nat):GG W R bs bb s sa sc lo b la lc v len q (c+1) lu l rv (X.setCells W.heap.size 0 [.slice ua uk um]):=by
 have ho:=h.ord;obtain⟨p,hp,hr⟩:=h.rd;obtain⟨xa,xk,xm,hx⟩:=h.res;have m:Marks (fun b=>b=W.heap.size) X (X.setCells W.heap.size 0 [.slice ua uk um]):=aN (S:=fun b=>b=W.heap.size) rfl _ _ _;have t:X.there W.heap.size 0 [Value.slice ua uk um].length:=aR hx.own _ _ (by simp);refine⟨cG zE _ _ _ h.bel,⟨ua,uk,um,dE _ _ _ hx.own,World.rangeAt_setCells_same _ _ _ _ t⟩,⟨zL h.xs.lt m.size,cM h.xs.at_ fun j _=>m.cell h.xs.lt (fun e=>by have:bs=W.heap.size:=e;omega) _⟩,h.sh.aY m (fun b e=>by have:b=W.heap.size:=e;omega),h.bx.mks m (by omega),⟨p,by omega,hr.res hx ho.1 m⟩,h.ru.aY m (fun b e=>by have:b=W.heap.size:=e;omega),ho⟩
theorem Fy {R:Nat} {X X':World} {p:Nat} {cs:List Value} (h:X.rangeAt p 0 cs) (hF:Fr R X X') (hl:p<R):X'.rangeAt p 0 cs:=cM h fun j _=>World.cell?_of_block (a:=⟨p,0+j,none⟩) (hF.bel.block p hl)
def VGa (R:Nat) (bs p o sc lo:Nat) (s:List Pl.Bl):Nat→Value→World→Prop
 |0,u,_=>u=.pointer (some ⟨bs,0,none⟩)
 |1,u,_=>u=.slice (some ⟨p,o,none⟩) s.length sc
 |2,u,_=>u=.pointer (some ⟨R,0,none⟩)
 |3,u,_=>u=.pointer (some ⟨bs,0,none⟩)
 |4,u,_=>u=.slice (some ⟨p,o,none⟩) s.length sc
 |5,u,_=>u=.int .i64 (s.length:Int)
 |6,u,_=>∃ j:Nat,u=.int .i64 (j:Int)∧j<s.length
 |7,u,_=>∃ j:Nat,u=.pointer (some ⟨p,o+j*3,none⟩)∧j<s.length
 |8,u,_=>∃ b∈s,∃ la lc,u=.agg #[.string b.kind,.string b.name,.slice la b.lines.length lc]
 |9,u,W=>∃ q:Nat,u=.pointer (some ⟨q,0,none⟩)∧lo≤q∧R<q∧aK W q 32 [.string {data:=#[]},.string {data:=#[]},.slice none 0 0]
 |_,_,_=>True
theorem zd (R:Nat) (bs p o sc lo:Nat) (s:List Pl.Bl):∀ j u W W',Fr R W W'→R<W.heap.size→VGa R bs p o sc lo s j u W→VGa R bs p o sc lo s j u W':=by
 intro j u W W' hb bN h;match j with
 |0=>exact h
 |1=>exact h
 |2=>exact h
 |3=>exact h
 |4=>exact h
 |5=>exact h
 |6=>exact h
 |7=>exact h
 |8=>exact h
 |9=>
  obtain⟨q,e,h1,h2,hw⟩:=h;exact⟨q,e,h1,h2,hw.fr hb h2⟩
 |n+10=>exact trivial
def C0 (bb:Nat) (s:List Pl.Bl) (sa:Option Addr) (sc:Nat) (b:Pl.Bl):Nat→Value→World→Prop
 |0,u,_=>u=.agg #[.slice sa s.length sc]
 |1,u,_=>u=.pointer (some ⟨bb,0,none⟩)
 |2,u,_=>u=.string b.kind
 |3,u,_=>u=.pointer (some ⟨bb,1,none⟩)
 |4,u,_=>u=.string b.name
 |6,u,_=>u=.string b.kind
 |7,u,_=>u=.string b.name
 |8,u,_=>u=.string {data:=#[110,111,110,101]}
 |_,_,_=>True
theorem sx (bb:Nat) (s:List Pl.Bl) (sa:Option Addr) (sc:Nat) (b:Pl.Bl) (j:Nat) (u:Value) (X X':World) (h:C0 bb s sa sc b j u X):C0 bb s sa sc b j u X':=by
 match j with
 |0=>exact h
 |1=>exact h
 |2=>exact h
 |3=>exact h
 |4=>exact h
 |5=>exact h
 |6=>exact h
 |7=>exact h
 |8=>exact h
 |k+9=>exact trivial
def Fg (R bb rp ro rc:Nat) (s:List Pl.Bl) (sa:Option Addr) (sc:Nat) (b:Pl.Bl) (l:List Pl.Ru):Nat→Value→World→Prop
 |0,u,_=>u=.agg #[.slice sa s.length sc]
 |1,u,_=>u=.pointer (some ⟨bb,0,none⟩)
 |2,u,_=>u=.string b.kind
 |3,u,_=>u=.pointer (some ⟨bb,1,none⟩)
 |4,u,_=>u=.string b.name
 |5,u,_=>u=.slice (some ⟨rp,ro,none⟩) l.length rc
 |6,u,_=>u=.pointer (some ⟨R,0,none⟩)
 |7,u,_=>u=.slice (some ⟨rp,ro,none⟩) l.length rc
 |8,u,_=>u=.int .i64 (l.length:Int)
 |9,u,_=>∃ j:Nat,u=.int .i64 (j:Int)∧j<l.length
 |10,u,_=>∃ j:Nat,u=.pointer (some ⟨rp,ro+j*4,none⟩)∧j<l.length
 |11,u,_=>∃ j:Nat,u=.pointer (some ⟨rp,ro+j*4,none⟩)∧j<l.length
 |12,u,_=>∃ k:ByteArray,u=.string k∧k.size≤1048576
 |14,u,_=>u=.string b.kind
 |15,u,_=>u=.string b.name
 |16,u,_=>∃ k:ByteArray,u=.string k∧k.size≤1048576
 |_,_,_=>True
theorem rP (R bb rp ro rc:Nat) (s:List Pl.Bl) (sa:Option Addr) (sc:Nat) (b:Pl.Bl) (l:List Pl.Ru) (j:Nat) (u:Value) (X X':World) (h:Fg R bb rp ro rc s sa sc b l j u X):Fg R bb rp ro rc s sa sc b l j u X':=by
 match j with
 |0=>exact h
 |1=>exact h
 |2=>exact h
 |3=>exact h
 |4=>exact h
 |5=>exact h
 |6=>exact h
 |7=>exact h
 |8=>exact h
 |9=>exact h
 |10=>exact h
 |11=>exact h
 |12=>exact h
 |13=>exact h
 |14=>exact h
 |15=>exact h
 |16=>exact h
 |k+17=>exact trivial
theorem Db (hS:iV Try.prog 43) (v0:Value) (W:World) (h:ij W v0):
  Calls Try.prog 15 #[v0] W fun e W'=>(∃ o sv kind name key,e=.returned (.tuple #[.agg #[sv],.string kind,.string name,.string key])∧Raw W' aV [aW o] [sv]∧Gz o∧kind.size≤1048576∧name.size≤1048576∧key.size≤1048576)∧Bel W W':=by
 have DP:=uh hS;obtain⟨a,n0,c,hv⟩:∃ a n c,v0=.slice a n c:=by rcases h with⟨a,c,e⟩|⟨b,off,n,cap,e,_⟩;exact⟨_,_,_,e⟩;exact⟨_,_,_,e⟩
 subst hv;obtain⟨wa,aS⟩:∃ wa,wa=W.alloc (.cells #[.slice none 0 0] 25):=⟨_,rfl⟩
 have gh:Bel W wa:=by rw[aS];exact ah zR _
 have kW:aK wa W.heap.size 25 [.slice none 0 0]:=by rw[aS];exact aK.new _ _ _ _ rfl
 have vV:Hid (wa.heap.size=W.heap.size+1):=by show _=_;rw[aS];simp
 have qO:=uh (sS _ wa (h.ae gh));have cC:=uh kW;have jP:=uh gh;clear h hS gh kW;go_enter Try.func15,Try.ntmps15
 go_upto_region 1 with fail
 rw[← aS];clear aS;go_wp2_with fail
 refine qO.out.mono ?_;rintro e W1 ⟨⟨v,len,rfl,hR⟩,bZ⟩;obtain⟨R,GY⟩:∃ R,R=wa.heap.size:=⟨_,rfl⟩
 rw[← GY]at hR ⊢;have iD:Hid (W.heap.size<R):=by show _<_;rw[GY,vV.out];omega
 replace cC:=uh (cC.out.ae bZ)
 have fz:=uh (ai jP.out bZ);have gP:=uh hR;have HA:=uh (vH DP.out R v len 0 W1 gP.out (by omega));clear GY hR bZ qO jP vV;go_wp2_with fail
 refine HA.out.mono ?_;rintro e W2 ⟨⟨s,sv,rfl,ho,hw⟩,hF,q,hq,eL⟩;obtain⟨sa,sc,D5⟩:=ho.len;subst D5;obtain⟨wc,Dm⟩:∃ wc,wc=W2.alloc (.cells #[.slice sa s.length sc] 25):=⟨_,rfl⟩
 obtain⟨bs,ES⟩:∃ bs,bs=W2.heap.size:=⟨_,rfl⟩
 have dP:Bel W2 wc:=by rw[Dm];exact ah zR _
 have HX:Hid (aD wc bs [.slice sa s.length sc]):=by show aD _ _ _;rw[Dm,ES];exact aD.new W2 #[.slice sa s.length sc] _ _ rfl
 have uT:Hid (R<bs):=by show _<_;rw[ES];exact eL.own.lt
 have oI:Hid (R<W1.heap.size):=gP.out.own.lt;have HO:=uh (ho.ae dP);have EJ:=uh hw.gz.1;have Ca:Hid (s.length≤70):=hw.len;replace cC:=uh ((cC.out.frL hF iD.out).ae dP)
 have HB:Hid (Bel W wc):=ai (fz.out.trans (hF.bel.mono (by have:=iD.out;omega))) dP;have HR:=uh (eL.ae dP);go_upto_region 3 with fail
 rw[← Dm,← ES];clear Dm ES dP ho hw hF eL HA fz gP;have zx:=HX.out.get 0 _ rfl;have zl:=HX.out.lt;by_cases s0:s.length=0
 ·have d0:¬ ((0:Int)<(s.length:Int)):=by omega
  clear s0;go_upto_region 9 with fail
  clear zx zl d0;have zx:=HX.out.at_;have zl:=HX.out.lt;have bG:wc.there W.heap.size 0 (#[.slice sa s.length sc]:Array Value).size:=aR cC.out.own _ _ (by simp);have uQ:=cC.out.own.lt;obtain⟨we,bj⟩:∃ we,we=wc.setCells W.heap.size 0 [.slice sa s.length sc]:=⟨_,rfl⟩
  have dv:we.rangeAt W.heap.size 0 [.slice sa s.length sc]:=by rw[bj];exact World.rangeAt_setCells_same _ _ _ _ bG
  have hm:Marks (fun b=>b=W.heap.size) wc we:=by rw[bj];exact aN (S:=fun b=>b=W.heap.size) rfl _ _ _
  have cH:Hid (Raw we aV [aW s] [.slice sa s.length sc]∧Bel W we):=⟨(HO.out.aY hm (fun b e=>by have:b=W.heap.size:=e;have:=oI.out;have:=iD.out;omega)).raw,by rw[bj];exact cG zE _ _ _ HB.out⟩
  clear hm;go_wp2_with (first|(refine wpList_load_mid rfl 25 _ rfl bs 0 rfl [.slice sa s.length sc] _ zx Try.underlying25 rfl (by kernel_rfl) ?_)|(refine wpList_store_mid rfl 25 _ _ rfl W.heap.size 0 #[.slice sa s.length sc] rfl rfl bG (by kernel_rfl) (by simp[Value.oneCell']) ?_))
  first|rw[← bj]|(simp only[List.toList_toArray];rw[← bj])
  try simp only[Act.put]
  refine bodyPost_ret (v:=.tuple #[.agg #[.slice sa s.length sc],.string {data:=#[116,101,97,109]},.string {data:=#[103,111,110,101]},.string {data:=#[114,111,111,109]}]) (by simp[results,Try.results15,asAddr,run_loadVar_mid (P:=Try.prog) _ _ _ 25 [.slice sa s.length sc] _ dv Try.underlying25 rfl (by kernel_rfl)]) rfl ?_;exact⟨⟨s,_,_,_,_,rfl,cH.out.1,EJ.out,by decide,by decide,by decide⟩,cH.out.2⟩
 have d0:(0:Int)<(s.length:Int):=by omega
 have HP:=uh (bp R v len q 8 wc HR.out (by omega) (by omega));go_wp2_with fail
 refine HP.out.mono ?_;rintro e W3 ⟨⟨rm,rfl,ia⟩,iK,jb⟩;obtain⟨m,rfl,hm⟩:=ia.nat;replace cC:=uh (cC.out.frL iK iD.out)
 replace HX:=uh (HX.out.frR iK uT.out)
 replace HO:=uh (HO.out.fr iK HR.out jb oI.out)
 replace HB:=uh (HB.out.trans (iK.bel.mono (by have:=iD.out;omega)))
 replace HR:=uh jb
 obtain⟨q3,Ey⟩:∃ x,x=q+1:=⟨_,rfl⟩
 rw[← Ey]at HR;clear ia hm iK jb HP zx zl;obtain⟨wd,IB⟩:∃ wd,wd=wc:=⟨_,rfl⟩
 clear IB wd;obtain⟨wc,Dm⟩:∃ wc,wc=W3:=⟨_,rfl⟩
 subst Dm;by_cases m0:m=0
 ·subst m0;go_upto_region 9 with fail
  have zx:=HX.out.at_;have zl:=HX.out.lt;have bG:wc.there W.heap.size 0 (#[.slice sa s.length sc]:Array Value).size:=aR cC.out.own _ _ (by simp);have uQ:=cC.out.own.lt;obtain⟨we,bj⟩:∃ we,we=wc.setCells W.heap.size 0 [.slice sa s.length sc]:=⟨_,rfl⟩
  have dv:we.rangeAt W.heap.size 0 [.slice sa s.length sc]:=by rw[bj];exact World.rangeAt_setCells_same _ _ _ _ bG
  have hm:Marks (fun b=>b=W.heap.size) wc we:=by rw[bj];exact aN (S:=fun b=>b=W.heap.size) rfl _ _ _
  have cH:Hid (Raw we aV [aW s] [.slice sa s.length sc]∧Bel W we):=⟨(HO.out.aY hm (fun b e=>by have:b=W.heap.size:=e;have:=oI.out;have:=iD.out;omega)).raw,by rw[bj];exact cG zE _ _ _ HB.out⟩
  clear hm;go_wp2_with (first|(refine wpList_load_mid rfl 25 _ rfl bs 0 rfl [.slice sa s.length sc] _ zx Try.underlying25 rfl (by kernel_rfl) ?_)|(refine wpList_store_mid rfl 25 _ _ rfl W.heap.size 0 #[.slice sa s.length sc] rfl rfl bG (by kernel_rfl) (by simp[Value.oneCell']) ?_))
  first|rw[← bj]|(simp only[List.toList_toArray];rw[← bj])
  try simp only[Act.put]
  refine bodyPost_ret (v:=.tuple #[.agg #[.slice sa s.length sc],.string {data:=#[116,101,97,109]},.string {data:=#[103,111,110,101]},.string {data:=#[114,111,111,109]}]) (by simp[results,Try.results15,asAddr,run_loadVar_mid (P:=Try.prog) _ _ _ 25 [.slice sa s.length sc] _ dv Try.underlying25 rfl (by kernel_rfl)]) rfl ?_;exact⟨⟨s,_,_,_,_,rfl,cH.out.1,EJ.out,by decide,by decide,by decide⟩,cH.out.2⟩
 have d1:(0:Int)<(m:Int):=by omega
 obtain⟨q,L2⟩:∃ x,x=q3:=⟨_,rfl⟩
 subst L2;have hq:q≤60000000:=by omega
 rcases HO.out with⟨e0,_⟩|⟨p,o,c',hv,_,Bj⟩
 ·rw[e0]at s0;simp at s0
 injection hv with g1 _ g3
 subst g1;subst g3;have qX:=uh Bj;clear Bj Ey;go_upto_region 4 with fail
 clear d0 d1 m0 s0;refine RY.iz R v len q HR.out (VGa R bs p o sc wc.heap.size s) (zd R _ _ _ _ _ _) (fun vals W'=>∃ bb b la lc,vals 9=.pointer (some ⟨bb,0,none⟩)∧b∈s∧Fr R wc W'∧(∃ q',q'≤q+20000∧Rd W' R v len q')∧wc.heap.size≤bb∧aK W' bb 32 [.string b.kind,.string b.name,.slice la b.lines.length lc]) 10 14 (by kernel_rfl) (by kernel_rfl) (by kernel_rfl) (by kernel_rfl) rfl [8,9] (by kernel_rfl) (by kernel_rfl) _ rfl rfl (by kernel_rfl) ?_ ?_ ?_
 ·intro i' o' ho gN a X pp hX hR tb hk hd;have zx:=HX.out.frR hX uT.out;have yx:=zx.get 0 _ rfl;have zl:=zx.lt;have Bj:=qX.out.aY (hX.eJ HR.out hR) (fun b e=>by have:b=R:=e;have:=oI.out;omega);match i',ho with
  |0,ho=>
   injection ho with ho;subst ho
   have e7:a.tmps[7]?.getD undef=.pointer (some ⟨bs,0,none⟩):=(RY.af a 7).trans ((hk 7 (by kernel_rfl)).trans rfl);exact Or.inl ⟨.pointer (some ⟨bs,0,none⟩),X,by simp[execOp,go_sem,e7],zR,rfl⟩
  |1,ho=>
   injection ho with ho;subst ho
   have e23:a.tmps[23]?.getD undef=_:=(RY.af a 23).trans (hd 0 _ 23 rfl rfl ⟨⟨0,.data⟩,by simp,rfl,rfl⟩ (by decide));exact Or.inl ⟨.slice (some ⟨p,o,none⟩) s.length sc,X,by simp[execOp,go_sem,e23,yx],zR,rfl⟩
  |2,ho=>
   injection ho with ho;subst ho
   have e6:a.tmps[6]?.getD undef=.pointer (some ⟨R,0,none⟩):=(RY.af a 6).trans ((hk 6 (by kernel_rfl)).trans rfl);exact Or.inl ⟨.pointer (some ⟨R,0,none⟩),X,by simp[execOp,go_sem,e6],zR,rfl⟩
  |3,ho=>
   injection ho with ho;subst ho
   have e7:a.tmps[7]?.getD undef=.pointer (some ⟨bs,0,none⟩):=(RY.af a 7).trans ((hk 7 (by kernel_rfl)).trans rfl);exact Or.inl ⟨.pointer (some ⟨bs,0,none⟩),X,by simp[execOp,go_sem,e7],zR,rfl⟩
  |4,ho=>
   injection ho with ho;subst ho
   have e26:a.tmps[26]?.getD undef=_:=(RY.af a 26).trans (hd 3 _ 26 rfl rfl ⟨⟨3,.data⟩,by simp,rfl,rfl⟩ (by decide));exact Or.inl ⟨.slice (some ⟨p,o,none⟩) s.length sc,X,by simp[execOp,go_sem,e26,yx],zR,rfl⟩
  |5,ho=>
   injection ho with ho;subst ho
   have e27:a.tmps[27]?.getD undef=_:=(RY.af a 27).trans (hd 4 _ 27 rfl rfl ⟨⟨4,.data⟩,by simp,rfl,rfl⟩ (by decide));exact Or.inl ⟨.int .i64 (s.length:Int),X,by simp[go_sem,e27],zR,rfl⟩
  |6,ho=>
   injection ho with ho;subst ho
   have e25:a.tmps[25]?.getD undef=_:=(RY.af a 25).trans (hd 2 _ 25 rfl rfl ⟨⟨2,.data⟩,by simp,rfl,rfl⟩ (by decide));have e28:a.tmps[28]?.getD undef=_:=(RY.af a 28).trans (hd 5 _ 28 rfl rfl ⟨⟨5,.data⟩,by simp,rfl,rfl⟩ (by decide));refine Or.inr ⟨40,#[.pointer (some ⟨R,0,none⟩),.int .i64 (s.length:Int)],by simp[go_sem,e25,e28],(bp R v len pp s.length X hR (by omega) (by have:=Ca.out;omega)).mono ?_⟩;rintro e W' ⟨⟨r,rfl,hr⟩,hF,xL⟩;obtain⟨j,rfl,hj⟩:=hr.nat;exact⟨_,rfl,hF,⟨pp+1,by omega,xL⟩,j,rfl,by have:=hj (by omega);omega⟩
  |7,ho=>
   injection ho with ho;subst ho
   have e24:a.tmps[24]?.getD undef=_:=(RY.af a 24).trans (hd 1 _ 24 rfl rfl ⟨⟨1,.data⟩,by simp,rfl,rfl⟩ (by decide));obtain⟨j,e29,hj⟩:=hd 6 _ 29 rfl rfl ⟨⟨6,.data⟩,by simp,rfl,rfl⟩ (by decide);have f29:=(RY.af a 29).trans e29;have th:(0:Int)≤(j:Int):=by omega
   have sZ:(j:Int)<(s.length:Int):=by omega
   exact Or.inl ⟨.pointer (some ⟨p,o+j*3,none⟩),X,by simp[execOp,go_sem,e24,f29,th,sZ],zR,j,rfl,hj⟩
  |8,ho=>
   injection ho with ho;subst ho
   obtain⟨j,e30,hj⟩:=hd 7 _ 30 rfl rfl ⟨⟨7,.data⟩,by simp,rfl,rfl⟩ (by decide);obtain⟨la,lc,hg,_⟩:=cv.at_ Bj hj zE;exact Or.inl ⟨_,X,aq 32 _ rfl p (o+j*3) e30 [.string (s.getD j Pl.aG).kind,.string (s.getD j Pl.aG).name,.slice la (s.getD j Pl.aG).lines.length lc] _ hg Try.underlying32 rfl (by kernel_rfl),zR,s.getD j Pl.aG,by simp[hj],la,lc,rfl⟩
  |9,ho=>
   injection ho with ho;subst ho
   exact Or.inl ⟨.pointer (some ⟨X.heap.size,0,none⟩),X.alloc (.cells #[.string {data:=#[]},.string {data:=#[]},.slice none 0 0] 32),by simp[execOp,go_sem],ah zR _,X.heap.size,rfl,by have:=hX.bel.size;omega,hR.own.lt,aK.new X [.string {data:=#[]},.string {data:=#[]},.slice none 0 0] 32 _ (by simp)⟩
  |n+10,ho=>omega
 ·intro a X vals pp hX hR tb hk hV hd;obtain⟨b,hb,la,lc,e31⟩:=hV 8 (by decide);obtain⟨bb,e8,Ce,Hn,fP⟩:=hV 9 (by decide);have f31:=(hd 8 _ 31 rfl rfl ⟨⟨8,.data⟩,by simp,rfl,rfl⟩ (by decide)).trans e31;have f8:=(hd 9 _ 8 rfl rfl ⟨⟨9,.data⟩,by simp,rfl,rfl⟩ (by decide)).trans e8;have bG:X.there bb 0 (#[.string b.kind,.string b.name,.slice la b.lines.length lc]:Array Value).size:=aR fP.own _ _ (by simp);have m:Marks (fun b=>b=bb) X (X.setCells bb 0 [.string b.kind,.string b.name,.slice la b.lines.length lc]):=aN (S:=fun b=>b=bb) rfl _ _ _;exact⟨X.setCells bb 0 [.string b.kind,.string b.name,.slice la b.lines.length lc],RY.cn _ _ _ rfl f8 f31 bG (by kernel_rfl) (by simp[Value.oneCell']),bb,b,la,lc,e8,hb,hX.mks m (fun b e=>by have:b=bb:=e;omega) HR.out.own.lt,⟨pp,by omega,hR.mks m (fun b e=>by have:b=bb:=e;omega)⟩,Ce,dE _ _ _ fP.own,World.rangeAt_setCells_same _ _ _ _ bG⟩
 ·rintro vals vs X hK bd;obtain⟨bb,b,la,lc,eq8,hb,DQ,⟨q4,hq4,ID⟩,fL,fP⟩:=hK;have q8:vs 8=_:=(bd 9 _ 8 rfl rfl).trans eq8;simp only[RY.aE,Act.put,List.setIfInBounds_toArray,List.set_cons_zero,List.set_cons_succ];rw[q8];generalize vs 23=s23,vs 24=s24,vs 25=s25,vs 26=s26,vs 27=s27,vs 28=s28,vs 29=s29,vs 30=s30,vs 31=pY;clear bd q8 eq8;replace cC:=uh (cC.out.frL DQ iD.out)
  replace HX:=uh (HX.out.frR DQ uT.out)
  replace HO:=uh (HO.out.fr DQ HR.out ID oI.out)
  replace HB:=uh (HB.out.trans (DQ.bel.mono (by have:=iD.out;omega)))
  have EK:Hid (R<bb):=by show _<_;have:=HR.out.own.lt;omega
  replace HR:=uh ID
  have fk:=uh fP;have Cc:=uh hb;clear DQ ID fP fL hb qX;have Hg:=uh (cB b.kind X);obtain⟨l,hl⟩:∃ l,l=Pl.aj b.kind:=⟨_,rfl⟩
  rw[← hl]at Hg;have iN:l.length≤12:=by rw[hl];exact cP _
  have tB:Hid (∀ r∈l,r.key.size≤1048576):=by rw[hl];exact vI b.kind
  clear hl;have x0:=fk.out.get 0 _ rfl;have xl:=fk.out.own.lt;go_wp2_with fail
  refine Hg.out.mono ?_;rintro e W6 ⟨rv,Fr6,rfl,kZ,kY,Ji,lX⟩;obtain⟨ra,rc,Jl⟩:=kZ.raw.aP;subst Jl;obtain⟨lu,Mv⟩:∃ lu,lu=X.heap.size:=⟨_,rfl⟩
  have KG:Hid (R<lu):=by show _<_;rw[Mv];exact HR.out.own.lt
  have yi:Hid (gp lu W6 [.row 40 aC] [bQ l] [.slice ra l.length rc]):=by show gp _ _ _ _ _;rw[Mv];exact⟨Fr6,kZ,kY,Ji⟩
  clear Mv;replace cC:=uh (cC.out.ae lX)
  replace HX:=uh (HX.out.ae lX)
  replace HO:=uh (HO.out.ae lX)
  replace HB:=uh (ai HB.out lX)
  replace HR:=uh (HR.out.ae lX)
  replace fk:=uh (fk.out.ae lX)
  clear kZ kY Ji lX x0 xl Hg;by_cases l0:l.length=0
  ·have d1:¬ ((0:Int)<(l.length:Int)):=by omega
   have Ja:Hid (GG W R bs bb s (some ⟨p,o,none⟩) sc W1.heap.size b la lc v len q4 0 lu l (.slice ra l.length rc) W6):=⟨HB.out,⟨_,_,_,cC.out⟩,HX.out,HO.out,fk.out,⟨q4,by omega,HR.out⟩,yi.out,iD.out,uT.out,EK.out,oI.out,KG.out⟩
   go_upto_region 8 with fail
   refine RY.j3 (fun c X=>GG W R bs bb s (some ⟨p,o,none⟩) sc W1.heap.size b la lc v len q4 c lu l (.slice ra l.length rc) X) (C0 bb s (some ⟨p,o,none⟩) sc b) (fun X=>X.rangeAt W.heap.size 0 [.slice (some ⟨p,o,none⟩) s.length sc]) 5 (by kernel_rfl) (by kernel_rfl) (by kernel_rfl) (by kernel_rfl) Ja.out.drew ?_ (by decide) (fun h=>by injection h with h;subst h;rfl) ?_
   ·intro i' o' ho a X c hc hI hk hd;have kj:c≤9:=hc;have zx:=hI.xs;have zl:=zx.lt;have zb:=hI.bx;have yb0:=zb.get 0 _ rfl;have yb1:=zb.get 1 _ rfl;have zbl:=zb.own.lt;match i',ho with
    |0,ho=>
     injection ho with ho;subst ho
     have v7:a.eval (.tmp 7)=.pointer (some ⟨bs,0,none⟩):=(hk 7 (by kernel_rfl)).trans rfl;exact Or.inl ⟨by decide,rfl,Or.inl ⟨_,X,aq 25 _ rfl bs 0 v7 [.slice (some ⟨p,o,none⟩) s.length sc] _ zx.at_ Try.underlying25 rfl (by kernel_rfl),⟨GG.up hI,fun _ _ h=>h,id⟩,rfl⟩⟩
    |1,ho=>
     injection ho with ho;subst ho
     have e8:a.tmps[8]?.getD undef=.pointer (some ⟨bb,0,none⟩):=(RY.af a 8).trans ((hk 8 (by kernel_rfl)).trans rfl);exact Or.inl ⟨by decide,rfl,Or.inl ⟨.pointer (some ⟨bb,0,none⟩),X,by simp[execOp,go_sem,e8],⟨GG.up hI,fun _ _ h=>h,id⟩,rfl⟩⟩
    |2,ho=>
     injection ho with ho;subst ho
     have e57:a.tmps[57]?.getD undef=_:=(RY.af a 57).trans (hd 1 _ 57 rfl rfl ⟨⟨1,.data⟩,by simp,rfl,rfl⟩);exact Or.inl ⟨by decide,rfl,Or.inl ⟨.string b.kind,X,by simp[execOp,go_sem,e57,yb0],⟨GG.up hI,fun _ _ h=>h,id⟩,rfl⟩⟩
    |3,ho=>
     injection ho with ho;subst ho
     have e8:a.tmps[8]?.getD undef=.pointer (some ⟨bb,0,none⟩):=(RY.af a 8).trans ((hk 8 (by kernel_rfl)).trans rfl);exact Or.inl ⟨by decide,rfl,Or.inl ⟨.pointer (some ⟨bb,1,none⟩),X,by simp[execOp,go_sem,e8],⟨GG.up hI,fun _ _ h=>h,id⟩,rfl⟩⟩
    |4,ho=>
     injection ho with ho;subst ho
     have e59:a.tmps[59]?.getD undef=_:=(RY.af a 59).trans (hd 3 _ 59 rfl rfl ⟨⟨3,.data⟩,by simp,rfl,rfl⟩);exact Or.inl ⟨by decide,rfl,Or.inl ⟨.string b.name,X,by simp[execOp,go_sem,e59,yb1],⟨GG.up hI,fun _ _ h=>h,id⟩,rfl⟩⟩
    |5,ho=>
     injection ho with ho;subst ho
     have f2:a.eval (.tmp 2)=.pointer (some ⟨W.heap.size,0,none⟩):=(hk 2 (by kernel_rfl)).trans rfl;have f1:a.eval (.tmp 56)=.agg #[.slice (some ⟨p,o,none⟩) s.length sc]:=hd 0 _ 56 rfl rfl ⟨⟨0,.data⟩,by simp,rfl,rfl⟩;obtain⟨x0,x1,x2,kW⟩:=hI.res;have bG:X.there W.heap.size 0 (#[.slice (some ⟨p,o,none⟩) s.length sc]:Array Value).size:=aR kW.own _ _ (by simp);exact Or.inr ⟨rfl,rfl,X.setCells W.heap.size 0 [.slice (some ⟨p,o,none⟩) s.length sc],RY.cn _ _ _ rfl f2 f1 bG (by kernel_rfl) (by simp[Value.oneCell']),⟨GG.st hI _ _ _,fun j u h=>sx _ _ _ _ _ j u _ _ h,fun _=>World.rangeAt_setCells_same _ _ _ _ bG⟩,World.rangeAt_setCells_same _ _ _ _ bG⟩
    |6,ho=>
     injection ho with ho;subst ho
     have e58:a.tmps[58]?.getD undef=_:=(RY.af a 58).trans (hd 2 _ 58 rfl rfl ⟨⟨2,.data⟩,by simp,rfl,rfl⟩);exact Or.inl ⟨by decide,rfl,Or.inl ⟨.string b.kind,X,by simp[execOp,go_sem,e58],⟨GG.up hI,fun _ _ h=>h,id⟩,rfl⟩⟩
    |7,ho=>
     injection ho with ho;subst ho
     have e60:a.tmps[60]?.getD undef=_:=(RY.af a 60).trans (hd 4 _ 60 rfl rfl ⟨⟨4,.data⟩,by simp,rfl,rfl⟩);exact Or.inl ⟨by decide,rfl,Or.inl ⟨.string b.name,X,by simp[execOp,go_sem,e60],⟨GG.up hI,fun _ _ h=>h,id⟩,rfl⟩⟩
    |8,ho=>
     injection ho with ho;subst ho
     exact Or.inl ⟨by decide,rfl,Or.inl ⟨.string {data:=#[110,111,110,101]},X,by simp[execOp,go_sem],⟨GG.up hI,fun _ _ h=>h,id⟩,rfl⟩⟩
    |k+9,ho=>simp at ho
   ·intro vs X c hc hI dv bd;have q3:vs 3=.string b.kind:=bd 6 _ 3 rfl rfl;have q4:vs 4=.string b.name:=bd 7 _ 4 rfl rfl;have q5:vs 5=.string {data:=#[110,111,110,101]}:=bd 8 _ 5 rfl rfl;simp only[RY.aE,Act.put,List.setIfInBounds_toArray,List.set_cons_zero,List.set_cons_succ];rw[q3,q4,q5];generalize vs 56=s56,vs 57=s57,vs 58=s58,vs 59=s59,vs 60=s60;clear bd q3 q4 q5;have jS:=ku EJ.out Cc.out;have qz:=hI.sh.raw;have EA:=hI.bel;go_wp2;refine bodyPost_ret (v:=.tuple #[.agg #[.slice (some ⟨p,o,none⟩) s.length sc],.string b.kind,.string b.name,.string {data:=#[110,111,110,101]}]) (by simp[results,Try.results15,asAddr,run_loadVar_mid (P:=Try.prog) _ _ _ 25 [.slice (some ⟨p,o,none⟩) s.length sc] _ dv Try.underlying25 rfl (by kernel_rfl)]) rfl ?_;exact⟨⟨s,_,b.kind,b.name,{data:=#[110,111,110,101]},rfl,qz,EJ.out,jS.1,jS.2,(by decide)⟩,EA⟩
  have d1:(0:Int)<(l.length:Int):=by omega
  have HP:=uh (bp R v len q4 8 W6 HR.out (by omega) (by omega));go_wp2_with fail
  refine HP.out.mono ?_;rintro e W7 ⟨⟨rm,rfl,ia⟩,Gd,KS⟩;obtain⟨m,rfl,hm⟩:=ia.nat;replace yi:=uh (yi.out.aY (Gd.eJ HR.out KS) (fun b e=>by have:b=R:=e;have:=KG.out;omega))
  replace cC:=uh (cC.out.frL Gd iD.out)
  replace HX:=uh (HX.out.frR Gd uT.out)
  replace HO:=uh (HO.out.fr Gd HR.out KS oI.out)
  replace HB:=uh (HB.out.trans (Gd.bel.mono (by have:=iD.out;omega)))
  replace fk:=uh (fk.out.fr Gd EK.out)
  replace HR:=uh KS
  obtain⟨q4',JU⟩:∃ x,x=q4+1:=⟨_,rfl⟩
  rw[← JU]at HR;have hq5:q4'≤q+20001:=by omega
  clear ia hm Gd KS HP JU hq4;obtain⟨q4,L2⟩:∃ x,x=q4':=⟨_,rfl⟩
  subst L2;by_cases m0:m=0
  ·subst m0;have Ja:Hid (GG W R bs bb s (some ⟨p,o,none⟩) sc W1.heap.size b la lc v len q4 0 lu l (.slice ra l.length rc) W7):=⟨HB.out,⟨_,_,_,cC.out⟩,HX.out,HO.out,fk.out,⟨q4,by omega,HR.out⟩,yi.out,iD.out,uT.out,EK.out,oI.out,KG.out⟩
   go_upto_region 8 with fail
   refine RY.j3 (fun c X=>GG W R bs bb s (some ⟨p,o,none⟩) sc W1.heap.size b la lc v len q4 c lu l (.slice ra l.length rc) X) (C0 bb s (some ⟨p,o,none⟩) sc b) (fun X=>X.rangeAt W.heap.size 0 [.slice (some ⟨p,o,none⟩) s.length sc]) 5 (by kernel_rfl) (by kernel_rfl) (by kernel_rfl) (by kernel_rfl) Ja.out.drew ?_ (by decide) (fun h=>by injection h with h;subst h;rfl) ?_
   ·intro i' o' ho a X c hc hI hk hd;have kj:c≤9:=hc;have zx:=hI.xs;have zl:=zx.lt;have zb:=hI.bx;have yb0:=zb.get 0 _ rfl;have yb1:=zb.get 1 _ rfl;have zbl:=zb.own.lt;match i',ho with
    |0,ho=>
     injection ho with ho;subst ho
     have v7:a.eval (.tmp 7)=.pointer (some ⟨bs,0,none⟩):=(hk 7 (by kernel_rfl)).trans rfl;exact Or.inl ⟨by decide,rfl,Or.inl ⟨_,X,aq 25 _ rfl bs 0 v7 [.slice (some ⟨p,o,none⟩) s.length sc] _ zx.at_ Try.underlying25 rfl (by kernel_rfl),⟨GG.up hI,fun _ _ h=>h,id⟩,rfl⟩⟩
    |1,ho=>
     injection ho with ho;subst ho
     have e8:a.tmps[8]?.getD undef=.pointer (some ⟨bb,0,none⟩):=(RY.af a 8).trans ((hk 8 (by kernel_rfl)).trans rfl);exact Or.inl ⟨by decide,rfl,Or.inl ⟨.pointer (some ⟨bb,0,none⟩),X,by simp[execOp,go_sem,e8],⟨GG.up hI,fun _ _ h=>h,id⟩,rfl⟩⟩
    |2,ho=>
     injection ho with ho;subst ho
     have e57:a.tmps[57]?.getD undef=_:=(RY.af a 57).trans (hd 1 _ 57 rfl rfl ⟨⟨1,.data⟩,by simp,rfl,rfl⟩);exact Or.inl ⟨by decide,rfl,Or.inl ⟨.string b.kind,X,by simp[execOp,go_sem,e57,yb0],⟨GG.up hI,fun _ _ h=>h,id⟩,rfl⟩⟩
    |3,ho=>
     injection ho with ho;subst ho
     have e8:a.tmps[8]?.getD undef=.pointer (some ⟨bb,0,none⟩):=(RY.af a 8).trans ((hk 8 (by kernel_rfl)).trans rfl);exact Or.inl ⟨by decide,rfl,Or.inl ⟨.pointer (some ⟨bb,1,none⟩),X,by simp[execOp,go_sem,e8],⟨GG.up hI,fun _ _ h=>h,id⟩,rfl⟩⟩
    |4,ho=>
     injection ho with ho;subst ho
     have e59:a.tmps[59]?.getD undef=_:=(RY.af a 59).trans (hd 3 _ 59 rfl rfl ⟨⟨3,.data⟩,by simp,rfl,rfl⟩);exact Or.inl ⟨by decide,rfl,Or.inl ⟨.string b.name,X,by simp[execOp,go_sem,e59,yb1],⟨GG.up hI,fun _ _ h=>h,id⟩,rfl⟩⟩
    |5,ho=>
     injection ho with ho;subst ho
     have f2:a.eval (.tmp 2)=.pointer (some ⟨W.heap.size,0,none⟩):=(hk 2 (by kernel_rfl)).trans rfl;have f1:a.eval (.tmp 56)=.agg #[.slice (some ⟨p,o,none⟩) s.length sc]:=hd 0 _ 56 rfl rfl ⟨⟨0,.data⟩,by simp,rfl,rfl⟩;obtain⟨x0,x1,x2,kW⟩:=hI.res;have bG:X.there W.heap.size 0 (#[.slice (some ⟨p,o,none⟩) s.length sc]:Array Value).size:=aR kW.own _ _ (by simp);exact Or.inr ⟨rfl,rfl,X.setCells W.heap.size 0 [.slice (some ⟨p,o,none⟩) s.length sc],RY.cn _ _ _ rfl f2 f1 bG (by kernel_rfl) (by simp[Value.oneCell']),⟨GG.st hI _ _ _,fun j u h=>sx _ _ _ _ _ j u _ _ h,fun _=>World.rangeAt_setCells_same _ _ _ _ bG⟩,World.rangeAt_setCells_same _ _ _ _ bG⟩
    |6,ho=>
     injection ho with ho;subst ho
     have e58:a.tmps[58]?.getD undef=_:=(RY.af a 58).trans (hd 2 _ 58 rfl rfl ⟨⟨2,.data⟩,by simp,rfl,rfl⟩);exact Or.inl ⟨by decide,rfl,Or.inl ⟨.string b.kind,X,by simp[execOp,go_sem,e58],⟨GG.up hI,fun _ _ h=>h,id⟩,rfl⟩⟩
    |7,ho=>
     injection ho with ho;subst ho
     have e60:a.tmps[60]?.getD undef=_:=(RY.af a 60).trans (hd 4 _ 60 rfl rfl ⟨⟨4,.data⟩,by simp,rfl,rfl⟩);exact Or.inl ⟨by decide,rfl,Or.inl ⟨.string b.name,X,by simp[execOp,go_sem,e60],⟨GG.up hI,fun _ _ h=>h,id⟩,rfl⟩⟩
    |8,ho=>
     injection ho with ho;subst ho
     exact Or.inl ⟨by decide,rfl,Or.inl ⟨.string {data:=#[110,111,110,101]},X,by simp[execOp,go_sem],⟨GG.up hI,fun _ _ h=>h,id⟩,rfl⟩⟩
    |k+9,ho=>simp at ho
   ·intro vs X c hc hI dv bd;have q3:vs 3=.string b.kind:=bd 6 _ 3 rfl rfl;have q4:vs 4=.string b.name:=bd 7 _ 4 rfl rfl;have q5:vs 5=.string {data:=#[110,111,110,101]}:=bd 8 _ 5 rfl rfl;simp only[RY.aE,Act.put,List.setIfInBounds_toArray,List.set_cons_zero,List.set_cons_succ];rw[q3,q4,q5];generalize vs 56=s56,vs 57=s57,vs 58=s58,vs 59=s59,vs 60=s60;clear bd q3 q4 q5;have jS:=ku EJ.out Cc.out;have qz:=hI.sh.raw;have EA:=hI.bel;go_wp2;refine bodyPost_ret (v:=.tuple #[.agg #[.slice (some ⟨p,o,none⟩) s.length sc],.string b.kind,.string b.name,.string {data:=#[110,111,110,101]}]) (by simp[results,Try.results15,asAddr,run_loadVar_mid (P:=Try.prog) _ _ _ 25 [.slice (some ⟨p,o,none⟩) s.length sc] _ dv Try.underlying25 rfl (by kernel_rfl)]) rfl ?_;exact⟨⟨s,_,b.kind,b.name,{data:=#[110,111,110,101]},rfl,qz,EJ.out,jS.1,jS.2,(by decide)⟩,EA⟩
  have d2:(0:Int)<(m:Int):=by omega
  obtain⟨rp,ro,qY⟩:∃ rp ro,ra=some ⟨rp,ro,none⟩:=by
   obtain⟨rp,ro,rc',_,_,_,hv,_⟩:=eE yi.out.raw (k:=0) (by omega);injection hv with g1 _ _
   exact⟨rp,ro,g1⟩
  subst qY;have Ja:Hid (GG W R bs bb s (some ⟨p,o,none⟩) sc W1.heap.size b la lc v len q4 0 lu l (.slice (some ⟨rp,ro,none⟩) l.length rc) W7):=⟨HB.out,⟨_,_,_,cC.out⟩,HX.out,HO.out,fk.out,⟨q4,by omega,HR.out⟩,yi.out,iD.out,uT.out,EK.out,oI.out,KG.out⟩
  go_upto_region 7 with fail
  clear d1 d2 m0 l0;refine RY.j3 (fun c X=>GG W R bs bb s (some ⟨p,o,none⟩) sc W1.heap.size b la lc v len q4 c lu l (.slice (some ⟨rp,ro,none⟩) l.length rc) X) (Fg R bb rp ro rc s (some ⟨p,o,none⟩) sc b l) (fun X=>X.rangeAt W.heap.size 0 [.slice (some ⟨p,o,none⟩) s.length sc]) 13 (by kernel_rfl) (by kernel_rfl) (by kernel_rfl) (by kernel_rfl) Ja.out.drew ?_ (by decide) (fun h=>by injection h with h;subst h;rfl) ?_
  ·intro i' o' ho a X c hc hI hk hd;have kj:c≤17:=hc;have zx:=hI.xs;have zl:=zx.lt;have zb:=hI.bx;have yb0:=zb.get 0 _ rfl;have yb1:=zb.get 1 _ rfl;have zbl:=zb.own.lt;match i',ho with
   |0,ho=>
    injection ho with ho;subst ho
    have v7:a.eval (.tmp 7)=.pointer (some ⟨bs,0,none⟩):=(hk 7 (by kernel_rfl)).trans rfl;exact Or.inl ⟨by decide,rfl,Or.inl ⟨_,X,aq 25 _ rfl bs 0 v7 [.slice (some ⟨p,o,none⟩) s.length sc] _ zx.at_ Try.underlying25 rfl (by kernel_rfl),⟨GG.up hI,fun _ _ h=>h,id⟩,rfl⟩⟩
   |1,ho=>
    injection ho with ho;subst ho
    have e8:a.tmps[8]?.getD undef=.pointer (some ⟨bb,0,none⟩):=(RY.af a 8).trans ((hk 8 (by kernel_rfl)).trans rfl);exact Or.inl ⟨by decide,rfl,Or.inl ⟨.pointer (some ⟨bb,0,none⟩),X,by simp[execOp,go_sem,e8],⟨GG.up hI,fun _ _ h=>h,id⟩,rfl⟩⟩
   |2,ho=>
    injection ho with ho;subst ho
    have e44:a.tmps[44]?.getD undef=_:=(RY.af a 44).trans (hd 1 _ 44 rfl rfl ⟨⟨1,.data⟩,by simp,rfl,rfl⟩);exact Or.inl ⟨by decide,rfl,Or.inl ⟨.string b.kind,X,by simp[execOp,go_sem,e44,yb0],⟨GG.up hI,fun _ _ h=>h,id⟩,rfl⟩⟩
   |3,ho=>
    injection ho with ho;subst ho
    have e8:a.tmps[8]?.getD undef=.pointer (some ⟨bb,0,none⟩):=(RY.af a 8).trans ((hk 8 (by kernel_rfl)).trans rfl);exact Or.inl ⟨by decide,rfl,Or.inl ⟨.pointer (some ⟨bb,1,none⟩),X,by simp[execOp,go_sem,e8],⟨GG.up hI,fun _ _ h=>h,id⟩,rfl⟩⟩
   |4,ho=>
    injection ho with ho;subst ho
    have e46:a.tmps[46]?.getD undef=_:=(RY.af a 46).trans (hd 3 _ 46 rfl rfl ⟨⟨3,.data⟩,by simp,rfl,rfl⟩);exact Or.inl ⟨by decide,rfl,Or.inl ⟨.string b.name,X,by simp[execOp,go_sem,e46,yb1],⟨GG.up hI,fun _ _ h=>h,id⟩,rfl⟩⟩
   |5,ho=>
    injection ho with ho;subst ho
    have e9:a.tmps[9]?.getD undef=.slice (some ⟨rp,ro,none⟩) l.length rc:=(RY.af a 9).trans ((hk 9 (by kernel_rfl)).trans rfl);exact Or.inl ⟨by decide,rfl,Or.inl ⟨.slice (some ⟨rp,ro,none⟩) l.length rc,X,by simp[execOp,go_sem,e9],⟨GG.up hI,fun _ _ h=>h,id⟩,rfl⟩⟩
   |6,ho=>
    injection ho with ho;subst ho
    have e6:a.tmps[6]?.getD undef=.pointer (some ⟨R,0,none⟩):=(RY.af a 6).trans ((hk 6 (by kernel_rfl)).trans rfl);exact Or.inl ⟨by decide,rfl,Or.inl ⟨.pointer (some ⟨R,0,none⟩),X,by simp[execOp,go_sem,e6],⟨GG.up hI,fun _ _ h=>h,id⟩,rfl⟩⟩
   |7,ho=>
    injection ho with ho;subst ho
    have e9:a.tmps[9]?.getD undef=.slice (some ⟨rp,ro,none⟩) l.length rc:=(RY.af a 9).trans ((hk 9 (by kernel_rfl)).trans rfl);exact Or.inl ⟨by decide,rfl,Or.inl ⟨.slice (some ⟨rp,ro,none⟩) l.length rc,X,by simp[execOp,go_sem,e9],⟨GG.up hI,fun _ _ h=>h,id⟩,rfl⟩⟩
   |8,ho=>
    injection ho with ho;subst ho
    have e50:a.tmps[50]?.getD undef=_:=(RY.af a 50).trans (hd 7 _ 50 rfl rfl ⟨⟨7,.data⟩,by simp,rfl,rfl⟩);exact Or.inl ⟨by decide,rfl,Or.inl ⟨.int .i64 (l.length:Int),X,by simp[go_sem,e50],⟨GG.up hI,fun _ _ h=>h,id⟩,rfl⟩⟩
   |9,ho=>
    injection ho with ho;subst ho
    have e49:a.tmps[49]?.getD undef=_:=(RY.af a 49).trans (hd 6 _ 49 rfl rfl ⟨⟨6,.data⟩,by simp,rfl,rfl⟩);have e51:a.tmps[51]?.getD undef=_:=(RY.af a 51).trans (hd 8 _ 51 rfl rfl ⟨⟨8,.data⟩,by simp,rfl,rfl⟩);obtain⟨pp,tb,hR⟩:=hI.rd;refine Or.inl ⟨by decide,rfl,Or.inr ⟨40,#[.pointer (some ⟨R,0,none⟩),.int .i64 (l.length:Int)],by simp[go_sem,e49,e51],(bp R v len pp l.length X hR (by omega) (by omega)).mono ?_⟩⟩;rintro e W' ⟨⟨r,rfl,hr⟩,hF,xL⟩;obtain⟨j,rfl,hj⟩:=hr.nat;exact⟨_,rfl,⟨GG.fr hI hF hR xL (by omega),fun j u h=>rP _ _ _ _ _ _ _ _ _ _ j u _ _ h,fun h=>Fy h hF iD.out⟩,j,rfl,by have:=hj (by omega);omega⟩
   |10,ho=>
    injection ho with ho;subst ho
    have e48:a.tmps[48]?.getD undef=_:=(RY.af a 48).trans (hd 5 _ 48 rfl rfl ⟨⟨5,.data⟩,by simp,rfl,rfl⟩);obtain⟨j,e52,hj⟩:=hd 9 _ 52 rfl rfl ⟨⟨9,.data⟩,by simp,rfl,rfl⟩;have f52:=(RY.af a 52).trans e52;have th:(0:Int)≤(j:Int):=by omega
    have sZ:(j:Int)<(l.length:Int):=by omega
    exact Or.inl ⟨by decide,rfl,Or.inl ⟨.pointer (some ⟨rp,ro+j*4,none⟩),X,by simp[execOp,go_sem,e48,f52,th,sZ],⟨GG.up hI,fun _ _ h=>h,id⟩,j,rfl,hj⟩⟩
   |11,ho=>
    injection ho with ho;subst ho
    obtain⟨j,e53,hj⟩:=hd 10 _ 53 rfl rfl ⟨⟨10,.data⟩,by simp,rfl,rfl⟩;have f53:=(RY.af a 53).trans e53;exact Or.inl ⟨by decide,rfl,Or.inl ⟨.pointer (some ⟨rp,ro+j*4,none⟩),X,by simp[execOp,go_sem,f53],⟨GG.up hI,fun _ _ h=>h,id⟩,j,rfl,hj⟩⟩
   |12,ho=>
    injection ho with ho;subst ho
    obtain⟨j,e54,hj⟩:=hd 11 _ 54 rfl rfl ⟨⟨11,.data⟩,by simp,rfl,rfl⟩;have f54:=(RY.af a 54).trans e54;obtain⟨rp2,ro2,rc2,a1,c1,v3,hv,hp,hg,_⟩:=eE hI.ru.raw hj;injection hv with g1 _ g3
    injection g1 with g1
    injection g1 with g1 g2
    subst g1;subst g2;have yk:=aF hg 0 _ rfl;rw[Nat.add_zero]at yk;exact Or.inl ⟨by decide,rfl,Or.inl ⟨.string (l.getD j Pl.aO).key,X,by simp[execOp,go_sem,f54,yk],⟨GG.up hI,fun _ _ h=>h,id⟩,_,rfl,tB.out _ (by simp[hj])⟩⟩
   |13,ho=>
    injection ho with ho;subst ho
    have f2:a.eval (.tmp 2)=.pointer (some ⟨W.heap.size,0,none⟩):=(hk 2 (by kernel_rfl)).trans rfl;have f1:a.eval (.tmp 43)=.agg #[.slice (some ⟨p,o,none⟩) s.length sc]:=hd 0 _ 43 rfl rfl ⟨⟨0,.data⟩,by simp,rfl,rfl⟩;obtain⟨x0,x1,x2,kW⟩:=hI.res;have bG:X.there W.heap.size 0 (#[.slice (some ⟨p,o,none⟩) s.length sc]:Array Value).size:=aR kW.own _ _ (by simp);exact Or.inr ⟨rfl,rfl,X.setCells W.heap.size 0 [.slice (some ⟨p,o,none⟩) s.length sc],RY.cn _ _ _ rfl f2 f1 bG (by kernel_rfl) (by simp[Value.oneCell']),⟨GG.st hI _ _ _,fun j u h=>rP _ _ _ _ _ _ _ _ _ _ j u _ _ h,fun _=>World.rangeAt_setCells_same _ _ _ _ bG⟩,World.rangeAt_setCells_same _ _ _ _ bG⟩
   |14,ho=>
    injection ho with ho;subst ho
    have e45:a.tmps[45]?.getD undef=_:=(RY.af a 45).trans (hd 2 _ 45 rfl rfl ⟨⟨2,.data⟩,by simp,rfl,rfl⟩);exact Or.inl ⟨by decide,rfl,Or.inl ⟨.string b.kind,X,by simp[execOp,go_sem,e45],⟨GG.up hI,fun _ _ h=>h,id⟩,rfl⟩⟩
   |15,ho=>
    injection ho with ho;subst ho
    have e47:a.tmps[47]?.getD undef=_:=(RY.af a 47).trans (hd 4 _ 47 rfl rfl ⟨⟨4,.data⟩,by simp,rfl,rfl⟩);exact Or.inl ⟨by decide,rfl,Or.inl ⟨.string b.name,X,by simp[execOp,go_sem,e47],⟨GG.up hI,fun _ _ h=>h,id⟩,rfl⟩⟩
   |16,ho=>
    injection ho with ho;subst ho
    obtain⟨key,ek,kg⟩:=hd 12 _ 55 rfl rfl ⟨⟨12,.data⟩,by simp,rfl,rfl⟩;have f55:=(RY.af a 55).trans ek;exact Or.inl ⟨by decide,rfl,Or.inl ⟨.string key,X,by simp[execOp,go_sem,f55],⟨GG.up hI,fun _ _ h=>h,id⟩,key,rfl,kg⟩⟩
   |k+17,ho=>simp at ho
  ·intro vs X c hc hI dv bd;have q3:vs 3=.string b.kind:=bd 14 _ 3 rfl rfl;have q4:vs 4=.string b.name:=bd 15 _ 4 rfl rfl;obtain⟨key,q5,kg⟩:=bd 16 _ 5 rfl rfl;simp only[RY.aE,Act.put,List.setIfInBounds_toArray,List.set_cons_zero,List.set_cons_succ];rw[q3,q4,q5];generalize vs 43=s43,vs 44=s44,vs 45=s45,vs 46=s46,vs 47=s47,vs 48=s48,vs 49=s49,vs 50=qG,vs 51=s51,vs 52=s52,vs 53=s53,vs 54=s54,vs 55=s55;clear bd q3 q4 q5;have jS:=ku EJ.out Cc.out;have qz:=hI.sh.raw;have EA:=hI.bel;go_wp2;refine bodyPost_ret (v:=.tuple #[.agg #[.slice (some ⟨p,o,none⟩) s.length sc],.string b.kind,.string b.name,.string key]) (by simp[results,Try.results15,asAddr,run_loadVar_mid (P:=Try.prog) _ _ _ 25 [.slice (some ⟨p,o,none⟩) s.length sc] _ dv Try.underlying25 rfl (by kernel_rfl)]) rfl ?_;exact⟨⟨s,_,b.kind,b.name,key,rfl,qz,EJ.out,jS.1,jS.2,kg⟩,EA⟩
theorem yC (hS:iV Try.prog 43) (v:Value) (W:World) (h:ij W v):
  Calls Try.prog 3 #[v] W fun e w'=>e=.returned (.bool true)∧Bel W w':=
 CF v W h
  (fun X hX=>(yI hS v X (h.ae hX)).mono fun _ _ ⟨⟨s,sv,he,hr,hw⟩,hb⟩=>⟨⟨s,sv,he,hr,hw.gz.1,hw.gz.2.1,hw.gz.2.2⟩,hb⟩)
  (fun X hX=>Db hS v X (h.ae hX))
end Go.Proofs.Ytmgibmmpopoboaa
namespace Go.Proofs.Ytmgibmmpopoboaa
open Go.ChangeShapes Go.WideShapes Go.ChangeAt Go.RowKit Go.Deep
theorem IP:ownKnob Try.prog.godebug=none:=by kernel_rfl
theorem FX:laidOutB Try.prog=true:=by kernel_rfl
theorem Try.tI:Try.prog.cellsOf 5=1:=by kernel_rfl
section
variable {H:Type} {enc:TypeId×Value→H}
set_option maxRecDepth 100000 in
theorem wH {W:World} {base:Nat} {v1:Value} {d1:DataW H} {p1:List MemPlace} (DI:Value.okWide Try.prog W .any base 22 v1) (h1:DataW.Trod enc Try.prog W 0 (fun _=>true) true 22 v1 d1 p1):ij W v1:=by
 obtain⟨a1,len,cap,rfl⟩:=okWide_slice Try.underlying22 DI;have lt:∀ x∈p1,x.block<W.heap.size:=by obtain⟨m,hm⟩:=h1;exact DataW.trod_lt m _ _ _ hm
 obtain⟨fuel,hf⟩:=h1;rcases open_ints Try.underlying22 Try.underlying5 Try.tI hf with⟨mE,hx⟩|⟨a,len',cap',zs,mE,_,hl,hm,hz,hx,fZ,hwz⟩
 ·simp[Value.cells]at mE;obtain⟨rfl,rfl,rfl⟩:=mE;exact Or.inl ⟨_,_,rfl⟩
 ·simp[Value.cells]at mE;obtain⟨rfl,rfl,rfl⟩:=mE;simp only[Prod.mk.injEq]at hx;obtain⟨rfl,rfl⟩:=hx;simp only[if_true]at hz;by_cases h0:len=0
  ·subst h0;exact Or.inl ⟨_,_,rfl⟩
  ·obtain⟨ab,ao,spot⟩:=a;have JG:spot=none:=by simpa [Addr.add]using World.cell?_spot (fZ 0 (by omega))
   subst JG;have hb:=lt (.cell ab (ao+0)) (by simp only[MemPlace.row,List.mem_map,List.mem_range];exact⟨0,by omega,rfl⟩);refine Or.inr ⟨ab,ao,len,cap,rfl,hb,hl,hm,fun i hi=> ?_⟩;have hr:=range_u8 hwz i;have hci:=fZ i (by omega);rw[Addr.add_lit]at hci;exact⟨_,hr.1,by have:=hr.2;omega,hci⟩
end
set_option maxRecDepth 100000 in
theorem su (hS:iV Try.prog 43) (os:Os) (started:os.Started) (H:Type) (enc:TypeId×Value→H):
  ReturnsInHanded {} Try.checked os 3 .any (Rows.fnSheetFillSpec.pre6 enc Try.prog Try.f3 Rows.fnSheetFillRow.domain false) (Rows.fnSheetFillSpec.post enc Try.prog Try.f3 false true false false):=by
 refine returnsInHanded_of_change (C:=Try.checked) IP started (by kernel_rfl) Try.func3
  (ChangeSpec.witness6 (enc:=enc) (C:=Try.checked) false ⟨#[],#[.slice none 0 0],[]⟩ 8 (by kernel_rfl) (by kernel_rfl) (by kernel_rfl) (by kernel_rfl)) ?_
 intro W base args ds gs before ET hW _ _;have DI:∀ (j:Nat) t v,Try.f3.params[j]? =some t→args[j]? =some v→Value.okWide Try.prog W .any base t v:=ET;have hW':=hW;obtain⟨p,q,Iv,hV,rfl,_,_⟩:=hW;have hA:DataW.TrodAll enc Try.prog W 0 (fun _=>true) true Try.f3.params.toList args.toList ds p:=Iv;rw[Try.params3]at hA DI;obtain⟨v0,vs0,d0,ds0,p0,q0,hargs,rfl,rfl,h0,r0⟩:=trodAll_cons hA;obtain⟨rfl,rfl,rfl⟩:=trodAll_nil r0;obtain rfl:args=#[v0]:=by cases args;simp_all
 obtain⟨rfl,rfl⟩:=trodVars_none hV;have k0:=h0;have lt0:∀ x∈p0,x.block<W.heap.size:=by obtain⟨m,hm⟩:=k0;exact DataW.trod_lt m _ _ _ hm
 have Mu:=wH (DI 0 22 v0 rfl rfl) h0;clear Iv ET;refine(yC hS _ W Mu).mono fun e W' ⟨he,bel⟩=> ?_;subst he;exact⟨_,rfl,_,_,_,[],_,[],hW',trodAll_mk1 (shut_bool Try.underlying4 _),(trodAll_cons_mk (Below.trod FX (by kernel_rfl) (of_decide_eq_true (by kernel_rfl)) k0 bel lt0) trodAll_mk0),rfl,bel.frame _,fun h=>by cases h⟩
theorem sB (hS:iV Try.prog 43):Rows.FnSheetFillSaid:=
 OpenClaim.holds_of_wide 3 Try.f3 rfl rfl rfl rfl rfl rfl rfl ⟨rfl,rfl,rfl,rfl,rfl⟩ rfl rfl rfl rfl rfl (by kernel_rfl) Try.func3 (by kernel_rfl)
  (of_decide_eq_true (by kernel_rfl)) (by unfold Func.isWrapper;first|(rw[if_pos (by decide+kernel)];kernel_rfl)|(rw[if_neg (by decide+kernel)];exact⟨rfl,rfl⟩))
  (fun os started H enc _=>su hS os started H enc)
end Go.Proofs.Ytmgibmmpopoboaa
