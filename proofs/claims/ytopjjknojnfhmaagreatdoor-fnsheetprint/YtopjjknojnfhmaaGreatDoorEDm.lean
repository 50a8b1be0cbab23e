import Derived.Test.YtopjjknojnfhmaaGreatDoorEDl
import Derived.Test.YtopjjknojnfhmaaGreatDoorEKk
namespace Go.Proofs.YtopjjknojnfhmaaGreatDoor
open Go.RowKit Go.Deep
namespace RY
theorem kE {P:Program} {id:Nat} {Q:Exit→Act→World→Prop} {a0:Act} {w:World} {l:List Oper} (R:Nat) (vv:Value) (len p0:Nat) (wL:Rd w R vv len p0)
  (V:Nat→Value→World→Prop) (hVm:∀ j u W W',Fr R W W'→R<W.heap.size→V j u W→V j u W')
  (K:(Nat→Value)→World→Prop) (n fuel:Nat)
  (hm:P.follows .mixedOrders=true) (hasc:asc .any l.toArray=true) (hap:di l=true) (dr:dK l a0.tmps.size=true)
  (hlen:l.length=n+1) (D:List Nat) (hD:(D.all fun d=>decide (d<n)&&waits l n d)=true)
  (hclo:((List.range n).all fun i=>(clo l fuel D).contains i)=true)
  (oS:Oper) (hS:l[n]? =some oS) (hSd:oS.dst=none)
  (ks:((l.take n).all fun o=>o.dst.isSome)=true)
  (iH:∀ (i:Nat) (o:Oper),l[i]? =some o→i<n→∀ (a:Act) (W:World) (p:Nat),Fr R w W→Rd W R vv len p→p≤p0+1000*n→(∀ k,cP l k=true→a.eval (.tmp k)=a0.eval (.tmp k))→
   (∀ (j:Nat) (o':Oper) (k:Nat),l[j]? =some o'→o'.dst=some k→(∃ e∈o.after,e.on=j∧Region.binds .any e=true)→j<n→V j (a.eval (.tmp k)) W)→
   (∃ u W',(execOp a.eval o).run P W=.ok (.value u) W'∧Bel W W'∧V i u W')∨
   (∃ f args,(execOp a.eval o).run P W=.ok (.enter f args) W∧Calls P f args W fun e W'=>∃ u,e=.returned u∧Fr R W W'∧(∃ q,q≤p+1000∧Rd W' R vv len q)∧V i u W'))
  (kS:∀ (a:Act) (W:World) (vals:Nat→Value) (p:Nat),Fr R w W→Rd W R vv len p→p≤p0+1000*n→(∀ k,cP l k=true→a.eval (.tmp k)=a0.eval (.tmp k))→(∀ j,j<n→V j (vals j) W)→
   (∀ (j:Nat) (o':Oper) (k:Nat),l[j]? =some o'→o'.dst=some k→(∃ e∈oS.after,e.on=j∧Region.binds .any e=true)→j<n→a.eval (.tmp k)=vals j)→
   ∃ W',(execOp a.eval oS).run P W=.ok .skip W'∧K vals W')
  (dt:∀ (vals vs:Nat→Value) (W:World),K vals W→(∀ (i:Nat) (o:Oper) (k:Nat),l[i]? =some o→o.dst=some k→vs k=vals i)→Q .normal (aC l a0 vs) W):
  (Code.region id l.toArray true).wp P Q a0 w:=by
 rw[List.all_eq_true]at hD;refine j5 (fun _ _=>True) (fun up vals W=>(up n=false→(Fr R w W∧∃ p,p≤p0+1000*(List.range n).countP up∧Rd W R vv len p)∧∀ j,j<n→up j=true→V j (vals j) W)∧(up n=true→K vals W)) hm hasc hap dr ?_ ?_ ?_
 ·intro vals;exact⟨fun _=>⟨⟨Fr.aG (Below.drew zR) wL.own.lt,p0,by omega,wL.later (Below.drew zR)⟩,fun j _ h=>by simp at h⟩,fun h=>by simp at h⟩
 ·intro up vals i o ho hi eN a W hk gK hT;have nt:i<n+1:=by rw[← hlen];exact(List.getElem?_eq_some_iff.1 ho).1
  have qN:(∀ d∈D,up d=true)→∀ j,j<n→up j=true:=fun h j hj=>by
   rw[List.all_eq_true]at hclo;have:=hclo j (by simp;omega);exact gm eN fuel D h j (by simpa using this)
  by_cases kB:up n=true
  ·exfalso;have bs:∀ j,j<n+1→up j=true:=fun j hj=>by
    by_cases e:j=n
    ·rw[e];exact kB
    ·exact qN (fun d hd=>by
      have h2:=hD d hd;rw[Bool.and_eq_true,decide_eq_true_eq]at h2;obtain⟨e,he,mM,oI⟩:=aU h2.2 hS;rw[← mM];exact eN n oS e hS he oI kB) j (by omega)
   rw[bs i nt]at hi;cases hi
  ·have kB:up n=false:=by simpa using kB
   obtain⟨⟨hF,p,hp,hR⟩,hV⟩:=hT.1 kB;have IB:=En up n;have eQ:i<n→o.dst.isSome=true:=fun h=>by
    rw[List.all_eq_true]at ks;exact ks _ (List.mem_of_getElem? (i:=i) (by rw[List.getElem?_take_of_lt h];exact ho))
   by_cases gG:i<n
   ·have key:∀ u W',Fr R W W'→(∃ q,q≤p+1000∧Rd W' R vv len q)→V i u W'→((fun j=>(j==i)||up j) n=false→(Fr R w W'∧∃ p,p≤p0+1000*(List.range n).countP (fun j=>(j==i)||up j)∧Rd W' R vv len p)∧∀ j,j<n→(fun j=>(j==i)||up j) j=true→V j ((fun j=>if j=i then u else vals j) j) W')∧((fun j=>(j==i)||up j) n=true→K (fun j=>if j=i then u else vals j) W'):=fun u W' hW ⟨q,hq,Hn⟩ nI=>by
     refine⟨fun _=>⟨⟨hF.trans hW,q,Nat.le_trans hq (Nat.le_trans (Nat.add_le_add_right hp 1000) (by rw[CP up i n gG hi,Nat.mul_add,Nat.mul_one,Nat.add_assoc];exact zE)),Hn⟩,fun j hj hu=> ?_⟩,fun h=> ?_⟩
     ·by_cases e:j=i
      ·simp only[e,if_true];exact nI
      ·have hu:up j=true:=by simpa [e]using hu
       simp only[e,if_false];exact hVm _ _ _ _ hW hR.own.lt (hV j hj hu)
     ·have:¬ n=i:=by omega
      have:up n=true:=by simpa [this]using h
      rw[kB]at this;cases this
    rcases iH i o ho gG a W p hF hR (by omega) hk (fun j o' k hj jg hd lJ=>by
      obtain⟨q1,q2,_⟩:=gK j o' k hj jg hd;rw[q2];exact hV j lJ q1) with⟨u,W',hr,hW,nI⟩|⟨f,args,hr,hc⟩
    ·exact Or.inl ⟨u,W',hr,eQ gG,trivial,key u W' (Fr.aG hW hR.own.lt) ⟨p,by omega,hR.later hW⟩ nI⟩
    ·refine Or.inr (Or.inr ⟨f,args,hr,eQ gG,hc.mono ?_⟩);rintro e W' ⟨u,rfl,hW,hq,nI⟩;exact⟨u,rfl,trivial,key u W' hW hq nI⟩
   ·obtain rfl:i=n:=by omega
    rw[hS]at ho;injection ho with ho
    subst ho;have jL:∀ j,j<i→up j=true:=qN fun d hd=>by
     have h2:=hD d hd;rw[Bool.and_eq_true,decide_eq_true_eq]at h2;obtain⟨e,he,mM,oI⟩:=aU h2.2 hS;have kU:d<l.length:=by rw[hlen];omega
     have hq:(l[d]).dst.isSome=true:=by
      rw[List.all_eq_true]at ks;exact ks _ (List.mem_of_getElem? (i:=d) (by rw[List.getElem?_take_of_lt h2.1];simp))
     obtain⟨k,jg⟩:=Option.isSome_iff_exists.1 hq;exact(gK d l[d] k (by simp) jg ⟨e,he,mM,oI⟩).1
    obtain⟨W',hr,hK⟩:=kS a W vals p hF hR (by omega) hk (fun j hj=>hV j hj (jL j hj)) (fun j o' k hj jg hd lJ=>(gK j o' k hj jg hd).2.1);exact Or.inr (Or.inl ⟨W',hr,hSd,fun h=>by simp at h,fun _=>hK⟩)
 ·intro up vals vs W bs iI hT;exact dt vals vs W (hT.2 (bs n (by omega))) (fun i o k hi hd=>(iI i o k hi hd).1)
end RY
set_option maxHeartbeats 40000000
set_option maxRecDepth 8000
def gZ:List ByteArray:=[{data:=#[116,101,97,109]},{data:=#[98,101,114,116,104]},{data:=#[115,101,114,118,105,99,101]},{data:=#[115,101,114,118,105,99,101]}]
def g7:List ByteArray:=[{data:=#[97]},{data:=#[98]},{data:=#[119,101,98]},{data:=#[100,98,45,49]}]
def LnB (x:Pl.Ln):Prop:=x.key.size≤20∧x.ws.length≤3∧∀ t∈x.ws,t.size≤4000
def BlB (n:Nat) (b:Pl.Bl):Prop:=b.kind.size≤20∧b.name.size≤20∧b.lines.length≤n∧∀ x∈b.lines,LnB x
theorem lg:∀ k∈gZ,1≤(Pl.ai k).length∧k.size≤20:=by decide+kernel
theorem zY:∀ k∈g7,k.size≤20:=by decide+kernel
theorem AG (k:ByteArray):∀ r∈Pl.ai k,r.key.size≤20:=by
 unfold Pl.ai;split
 ·decide+kernel
 ·split
  ·decide+kernel
  ·split<;>decide+kernel
theorem zK {l:List Pl.Ru} {key:ByteArray} (h:∃ r∈l,r.key=key):∃ i,Pl.bC l key=some i∧i<l.length:=by
 have q:∀ (l:List Pl.Ru) (j:Nat),(∃ r∈l,r.key=key)→∃ i,Pl.dU key l j=some i:=by
  intro l;induction l with
  |nil=>rintro j ⟨r,hr,_⟩;cases hr
  |cons r l ih=>
   rintro j ⟨x,hx,e⟩;rw[Pl.dU];by_cases c:(r.key.toList==key.toList)=true
   ·exact⟨j,by rw[if_pos c]⟩
   ·rw[if_neg c];rcases List.mem_cons.1 hx with q|q
    ·exact absurd (by rw[← q,e];simp) c
    ·exact ih (j+1) ⟨x,q,e⟩
 obtain⟨i,hi⟩:=q l 0 h;exact⟨i,hi,Pl.iZ hi⟩
theorem Dat.fr {S:Nat→Prop} {B lo R:Nat} {W X:World} {sh:List Sh} {A:List Dt} {c:List Value} {v v':Value} {n n' p p':Nat} (h:Dat S B lo W sh A c) (hF:Fr R W X) (h1:Rd W R v n p) (h2:Rd X R v' n' p') (hB:B≤R) (hR:R<lo):Dat S B lo X sh A c:=h.bo (hF.i4 h1 h2) (fun b e=>by have:b=R:=e;omega)
structure DB (W0 X:World) (R B0 Q L:Nat) (b:Pl.Bl) (bv:Value):Prop where
 fr:Fr R W0 X
 res:al X B0 41 [.string {data:=#[]},.string {data:=#[]},.slice none 0 0]
 box:al X Q 41 [.string b.kind,.string b.name,bv]
 dat:Dat (fun _=>False) 0 L X bF [bT b.lines] [bv]
 ord:R<W0.heap.size∧W0.heap.size≤B0∧B0<Q∧Q<L∧L≤X.heap.size
theorem DB.step {W0 X X':World} {R B0 Q L:Nat} {b:Pl.Bl} {bv:Value} {v v':Value} {n n' p p':Nat} (h:DB W0 X R B0 Q L b bv) (hF:Fr R X X') (h1:Rd X R v n p) (h2:Rd X' R v' n' p'):DB W0 X' R B0 Q L b bv:=by
 have ho:=h.ord;exact⟨h.fr.trans hF,h.res.fr hF (by omega),h.box.fr hF (by omega),h.dat.fr hF h1 h2 (by omega) (by omega),by have:=hF.bel.size;omega⟩
theorem DB.later {W0 X X':World} {R B0 Q L:Nat} {b:Pl.Bl} {bv:Value} (h:DB W0 X R B0 Q L b bv) (hb:Bel X X'):DB W0 X' R B0 Q L b bv:=by
 have ho:=h.ord;exact⟨h.fr.trans (Fr.aG hb (by omega)),h.res.later hb,h.box.later hb,h.dat.later hb,by have:=hb.size;omega⟩
theorem DB.put {W0 X:World} {R B0 Q L:Nat} {b:Pl.Bl} {bv v':Value} {ls:List Pl.Ln} (h:DB W0 X R B0 Q L b bv) (hd:Dat (fun _=>False) 0 L X bF [bT ls] [v']):DB W0 (X.setCells Q 0 [.string b.kind,.string b.name,v']) R B0 Q L ⟨b.kind,b.name,ls⟩ v':=by
 have ho:=h.ord;have m:Marks (fun b=>b=Q) X (X.setCells Q 0 [.string b.kind,.string b.name,v']):=aM (S:=fun b=>b=Q) rfl _ _ _;have t:X.there Q 0 [.string b.kind,.string b.name,v'].length:=aR h.box.own _ _ (by simp);exact⟨h.fr.mks m (fun b e=>by have:b=Q:=e;omega) ho.1,h.res.mks m (by omega),⟨dB _ _ _ h.box.own,World.rangeAt_setCells_same _ _ _ _ t⟩,hd.bo m (fun b e=>by have:b=Q:=e;omega),by have:=m.size;omega⟩
def BQ (p k q:Nat):Prop:=q+300000*k≤p+3000000
theorem IU {p k q:Nat} (h:BQ p k q):q≤p+3000000:=by unfold BQ at h;omega
theorem nW {p k q q':Nat} (h:BQ p (k+1) q) (h':q'≤q+200000):BQ p k q':=by unfold BQ at h ⊢;omega
theorem Dat.lower {S:Nat→Prop} {B lo lo':Nat} {W:World} {sh:List Sh} {A:List Dt} {c:List Value} (h:Dat S B lo W sh A c) (hl:lo'≤lo):Dat S B lo' W sh A c:=by
 obtain⟨F,r,f⟩:=h;exact⟨F,r,fun b hb=>(f b hb).imp id fun h=>by omega⟩
def VDB (R:Nat) (lo:Nat):Nat→Value→World→Prop
 |0,u,W=>∃ b:Nat,u=.slice (some ⟨b,0,none⟩) 4 4∧R<b∧b<W.heap.size∧∀ j,j<4→W.cell? ⟨b,j,none⟩=some (.string (gZ.getD j ⟨#[]⟩))
 |1,u,_=>u=.pointer (some ⟨R,0,none⟩)
 |2,u,_=>∃ j:Nat,u=.int .i64 (j:Int)∧j<4
 |3,u,W=>∃ b j:Nat,u=.pointer (some ⟨b,j,none⟩)∧R<b∧b<W.heap.size∧∃ x∈gZ,W.cell? ⟨b,j,none⟩=some (.string x)
 |4,u,_=>∃ x∈gZ,u=.string x
 |5,u,W=>∃ b:Nat,u=.slice (some ⟨b,0,none⟩) 4 4∧R<b∧b<W.heap.size∧∀ j,j<4→W.cell? ⟨b,j,none⟩=some (.string (g7.getD j ⟨#[]⟩))
 |6,u,_=>u=.pointer (some ⟨R,0,none⟩)
 |7,u,_=>∃ j:Nat,u=.int .i64 (j:Int)∧j<4
 |8,u,W=>∃ b j:Nat,u=.pointer (some ⟨b,j,none⟩)∧R<b∧b<W.heap.size∧∃ x∈g7,W.cell? ⟨b,j,none⟩=some (.string x)
 |9,u,_=>∃ x∈g7,u=.string x
 |10,u,_=>∃ x∈gZ,∃ y∈g7,u=.agg #[.string x,.string y,.slice none 0 0]
 |11,u,W=>∃ q:Nat,u=.pointer (some ⟨q,0,none⟩)∧lo≤q∧R<q∧al W q 41 [.string {data:=#[]},.string {data:=#[]},.slice none 0 0]
 |_,_,_=>True
theorem Cg (R:Nat) (lo:Nat):∀ j u W W',Fr R W W'→R<W.heap.size→VDB R lo j u W→VDB R lo j u W':=by
 intro j u W W' hb bd h;match j with
 |0=>
  obtain⟨b,e,h1,h2,hc⟩:=h;exact⟨b,e,h1,zL h2 hb.bel.size,fun j hj=>(hb.cell h1 h2).trans (hc j hj)⟩
 |1=>exact h
 |2=>exact h
 |3=>
  obtain⟨b,j,e,h1,h2,x,hx,hc⟩:=h;exact⟨b,j,e,h1,zL h2 hb.bel.size,x,hx,(hb.cell h1 h2).trans hc⟩
 |4=>exact h
 |5=>
  obtain⟨b,e,h1,h2,hc⟩:=h;exact⟨b,e,h1,zL h2 hb.bel.size,fun j hj=>(hb.cell h1 h2).trans (hc j hj)⟩
 |6=>exact h
 |7=>exact h
 |8=>
  obtain⟨b,j,e,h1,h2,x,hx,hc⟩:=h;exact⟨b,j,e,h1,zL h2 hb.bel.size,x,hx,(hb.cell h1 h2).trans hc⟩
 |9=>exact h
 |10=>exact h
 |11=>
  obtain⟨q,e,h1,h2,hw⟩:=h;exact⟨q,e,h1,h2,hw.fr hb h2⟩
 |n+12=>exact trivial
def Ky (sc:Nat):Nat→Value→World→Prop
 |0,vv,_=>vv=.int .i64 (sc:Int)
 |1,vv,_=>vv=.bool false
 |2,vv,_=>vv=.bool false
 |3,vv,_=>vv=undef
 |4,vv,_=>vv=undef
 |5,vv,_=>vv=undef
 |6,vv,_=>vv=undef
 |7,vv,_=>vv=undef
 |8,vv,_=>vv=undef
 |9,vv,_=>vv=undef
 |10,vv,_=>vv=undef
 |11,vv,_=>vv=undef
 |12,vv,_=>vv=undef
 |13,vv,_=>vv=undef
 |14,vv,_=>vv=undef
 |15,vv,_=>vv=undef
 |16,vv,_=>vv=undef
 |17,vv,_=>vv=undef
 |18,vv,_=>vv=.bool false
 |_,_,_=>True
theorem AI (sc:Nat):∀ jj vv W W',Bel W W'→Ky sc jj vv W→Ky sc jj vv W':=by
 intro jj vv W W' hb h;match jj with
 |0=>exact h
 |1=>exact h
 |2=>exact h
 |3=>exact h
 |4=>exact h
 |5=>exact h
 |6=>exact h
 |7=>exact h
 |8=>exact h
 |9=>exact h
 |10=>exact h
 |11=>exact h
 |12=>exact h
 |13=>exact h
 |14=>exact h
 |15=>exact h
 |16=>exact h
 |17=>exact h
 |18=>exact h
 |n+19=>exact trivial
def JV (sc:Nat) (kc:Nat):Nat→Value→World→Prop
 |0,vv,_=>vv=.int .i64 (sc:Int)
 |1,vv,_=>vv=.bool true
 |2,vv,_=>vv=.bool true
 |3,vv,_=>vv=.int .i64 (kc:Int)
 |4,vv,_=>vv=.bool true
 |5,vv,_=>vv=.bool true
 |6,vv,_=>vv=undef
 |7,vv,_=>vv=undef
 |8,vv,_=>vv=undef
 |9,vv,_=>vv=undef
 |10,vv,_=>vv=undef
 |11,vv,_=>vv=undef
 |12,vv,_=>vv=undef
 |13,vv,_=>vv=undef
 |14,vv,_=>vv=undef
 |15,vv,_=>vv=undef
 |16,vv,_=>vv=undef
 |17,vv,_=>vv=.bool true
 |18,vv,_=>vv=.bool true
 |_,_,_=>True
theorem z6 (sc:Nat) (kc:Nat):∀ jj vv W W',Bel W W'→JV sc kc jj vv W→JV sc kc jj vv W':=by
 intro jj vv W W' hb h;match jj with
 |0=>exact h
 |1=>exact h
 |2=>exact h
 |3=>exact h
 |4=>exact h
 |5=>exact h
 |6=>exact h
 |7=>exact h
 |8=>exact h
 |9=>exact h
 |10=>exact h
 |11=>exact h
 |12=>exact h
 |13=>exact h
 |14=>exact h
 |15=>exact h
 |16=>exact h
 |17=>exact h
 |18=>exact h
 |n+19=>exact trivial
def KR (Q:Nat) (BX:Nat) (b:Pl.Bl) (key:ByteArray) (sc:Nat) (kc:Nat) (ri:Nat) (l:List Pl.Ru) (mn:Bool):Nat→Value→World→Prop
 |0,vv,_=>vv=.int .i64 (sc:Int)
 |1,vv,_=>vv=.bool true
 |2,vv,_=>vv=.bool true
 |3,vv,_=>vv=.int .i64 (kc:Int)
 |4,vv,_=>vv=.bool false
 |5,vv,_=>vv=.bool false
 |6,vv,_=>vv=.pointer (some ⟨Q,0,none⟩)
 |7,vv,_=>vv=.string b.kind
 |8,vv,W=>∃ pl ol cl,vv=.slice (some ⟨pl,ol,none⟩) l.length cl∧pl<W.heap.size∧W.cell? ⟨pl,ol+ri*4+2,none⟩=some (.bool mn)
 |9,vv,_=>vv=.pointer (some ⟨Q,0,none⟩)
 |10,vv,_=>vv=.string b.kind
 |11,vv,_=>vv=.pointer (some ⟨BX,0,none⟩)
 |12,vv,_=>vv=.string key
 |13,vv,_=>vv=.int .i64 (ri:Int)
 |14,vv,W=>∃ pl ol,vv=.pointer (some ⟨pl,ol+ri*4,none⟩)∧pl<W.heap.size∧W.cell? ⟨pl,ol+ri*4+2,none⟩=some (.bool mn)
 |15,vv,W=>∃ pl ol,vv=.pointer (some ⟨pl,ol+ri*4+2,none⟩)∧pl<W.heap.size∧W.cell? ⟨pl,ol+ri*4+2,none⟩=some (.bool mn)
 |16,vv,_=>vv=.bool mn
 |17,vv,_=>vv=.bool mn
 |18,vv,_=>vv=.bool mn
 |_,_,_=>True
theorem Ah (Q:Nat) (BX:Nat) (b:Pl.Bl) (key:ByteArray) (sc:Nat) (kc:Nat) (ri:Nat) (l:List Pl.Ru) (mn:Bool):∀ jj vv W W',Bel W W'→KR Q BX b key sc kc ri l mn jj vv W→KR Q BX b key sc kc ri l mn jj vv W':=by
 intro jj vv W W' hb h;match jj with
 |0=>exact h
 |1=>exact h
 |2=>exact h
 |3=>exact h
 |4=>exact h
 |5=>exact h
 |6=>exact h
 |7=>exact h
 |8=>
  obtain⟨pl,ol,cl,e,h1,h2⟩:=h;exact⟨pl,ol,cl,e,zL h1 hb.size,(hb.cell (p:=⟨pl,_,none⟩) h1).trans h2⟩
 |9=>exact h
 |10=>exact h
 |11=>exact h
 |12=>exact h
 |13=>exact h
 |14=>
  obtain⟨pl,ol,e,h1,h2⟩:=h;exact⟨pl,ol,e,zL h1 hb.size,(hb.cell (p:=⟨pl,_,none⟩) h1).trans h2⟩
 |15=>
  obtain⟨pl,ol,e,h1,h2⟩:=h;exact⟨pl,ol,e,zL h1 hb.size,(hb.cell (p:=⟨pl,_,none⟩) h1).trans h2⟩
 |16=>exact h
 |17=>exact h
 |18=>exact h
 |n+19=>exact trivial
theorem Av (R:Nat) (v:Value) (len p:Nat) (W0:World) (h:Rd W0 R v len p) (hp:p≤400000000000):
  Calls Tryz.prog 62 #[.pointer (some ⟨R,0,none⟩)] W0 fun e W'=>(∃ b lv,e=.returned (.agg #[.string b.kind,.string b.name,lv])∧Dat (fun _=>False) 0 W0.heap.size W' bF [bT b.lines] [lv]∧BlB 7 b)∧Fr R W0 W'∧∃ q,q≤p+3000000∧Rd W' R v len q:=by
 have r8:=uh h;clear h;obtain⟨wa,aZ⟩:∃ wa,wa=W0.alloc (.cells #[.string {data:=#[]},.string {data:=#[]},.slice none 0 0] 41):=⟨_,rfl⟩
 have g8:Bel W0 wa:=by rw[aZ];exact ae zR _
 have kW:Hid (W0.heap.size=W0.heap.size):=rfl;have g9:Hid (R<W0.heap.size):=r8.out.own.lt;have qQ:Hid (al wa W0.heap.size 41 [.string {data:=#[]},.string {data:=#[]},.slice none 0 0]):=by show al _ _ _ _;rw[aZ];exact al.new _ _ _ _ rfl
 have HR:Hid (Rd wa R v len p):=r8.out.later g8;have FM:Hid (Fr R W0 wa):=Fr.aG g8 r8.out.own.lt;have QA:Hid (R<wa.heap.size):=HR.out.own.lt;have Bi:Hid (wa.heap.size=W0.heap.size+1):=by show _=_;rw[aZ];simp
 clear g8 r8;go_enter Tryz.func62,Tryz.ntmps62
 go_upto_region 1 with fail
 rw[← aZ];clear aZ;refine RY.kE R v len p HR.out (VDB R wa.heap.size) (Cg R _) (fun vals W'=>∃ q kd nm,vals 11=.pointer (some ⟨q,0,none⟩)∧kd∈gZ∧nm∈g7∧Fr R wa W'∧(∃ p',p'≤p+20000∧Rd W' R v len p')∧wa.heap.size≤q∧al W' q 41 [.string kd,.string nm,.slice none 0 0]) 12 14 (by kernel_rfl) (by kernel_rfl) (by kernel_rfl) (by kernel_rfl) rfl [10,11] (by kernel_rfl) (by kernel_rfl) _ rfl rfl (by kernel_rfl) ?_ ?_ ?_
 ·intro i' o' ho gG a X pp hX hR wT hk hd;match i',ho with
  |0,ho=>
   injection ho with ho;subst ho
   refine Or.inl ⟨.slice (some ⟨X.heap.size,0,none⟩) 4 4,X.alloc (.cells #[.string {data:=#[116,101,97,109]},.string {data:=#[98,101,114,116,104]},.string {data:=#[115,101,114,118,105,99,101]},.string {data:=#[115,101,114,118,105,99,101]}] 9),by simp[execOp,go_sem],ae zR _,X.heap.size,rfl,hR.own.lt,by simp,fun j hj=>gp gZ X j hj⟩
  |1,ho=>
   injection ho with ho;subst ho
   have e0:a.tmps[0]?.getD undef=.pointer (some ⟨R,0,none⟩):=(RY.af a 0).trans ((hk 0 (by kernel_rfl)).trans rfl);exact Or.inl ⟨.pointer (some ⟨R,0,none⟩),X,by simp[execOp,go_sem,e0],zR,rfl⟩
  |2,ho=>
   injection ho with ho;subst ho
   have e9:a.tmps[9]?.getD undef=_:=(RY.af a 9).trans (hd 1 _ 9 rfl rfl ⟨⟨1,.data⟩,by simp,rfl,rfl⟩ (by decide));refine Or.inr ⟨12,#[.pointer (some ⟨R,0,none⟩),.int .i64 4],by simp[go_sem,e9],(bb R v len pp 4 X hR (by omega) (by omega)).mono ?_⟩;rintro e W' ⟨⟨r,rfl,hr⟩,hF,Ia⟩;obtain⟨j,rfl,hj⟩:=hr.nat;exact⟨_,rfl,hF,⟨pp+1,by omega,Ia⟩,j,rfl,by have:=hj (by omega);omega⟩
  |3,ho=>
   injection ho with ho;subst ho
   obtain⟨b,ea,h1,h2,hc⟩:=hd 0 _ 8 rfl rfl ⟨⟨0,.data⟩,by simp,rfl,rfl⟩ (by decide);obtain⟨j,eb,hj⟩:=hd 2 _ 10 rfl rfl ⟨⟨2,.data⟩,by simp,rfl,rfl⟩ (by decide);have f1:=(RY.af a 8).trans ea;have f2:=(RY.af a 10).trans eb;have BB:(j:Int)<4:=by omega
   exact Or.inl ⟨.pointer (some ⟨b,j,none⟩),X,by simp[execOp,go_sem,f1,f2,BB],zR,b,j,rfl,h1,h2,gZ.getD j ⟨#[]⟩,by simp[List.getD,List.getElem?_eq_getElem (l:=gZ) (show j<gZ.length from hj)],hc j hj⟩
  |4,ho=>
   injection ho with ho;subst ho
   obtain⟨b,j,ea,h1,h2,x,hx,hc⟩:=hd 3 _ 11 rfl rfl ⟨⟨3,.data⟩,by simp,rfl,rfl⟩ (by decide);have f1:=(RY.af a 11).trans ea;exact Or.inl ⟨.string x,X,by simp[execOp,go_sem,f1,hc],zR,x,hx,rfl⟩
  |5,ho=>
   injection ho with ho;subst ho
   refine Or.inl ⟨.slice (some ⟨X.heap.size,0,none⟩) 4 4,X.alloc (.cells #[.string {data:=#[97]},.string {data:=#[98]},.string {data:=#[119,101,98]},.string {data:=#[100,98,45,49]}] 9),by simp[execOp,go_sem],ae zR _,X.heap.size,rfl,hR.own.lt,by simp,fun j hj=>gp g7 X j hj⟩
  |6,ho=>
   injection ho with ho;subst ho
   have e0:a.tmps[0]?.getD undef=.pointer (some ⟨R,0,none⟩):=(RY.af a 0).trans ((hk 0 (by kernel_rfl)).trans rfl);exact Or.inl ⟨.pointer (some ⟨R,0,none⟩),X,by simp[execOp,go_sem,e0],zR,rfl⟩
  |7,ho=>
   injection ho with ho;subst ho
   have e14:a.tmps[14]?.getD undef=_:=(RY.af a 14).trans (hd 6 _ 14 rfl rfl ⟨⟨6,.data⟩,by simp,rfl,rfl⟩ (by decide));refine Or.inr ⟨12,#[.pointer (some ⟨R,0,none⟩),.int .i64 4],by simp[go_sem,e14],(bb R v len pp 4 X hR (by omega) (by omega)).mono ?_⟩;rintro e W' ⟨⟨r,rfl,hr⟩,hF,Ia⟩;obtain⟨j,rfl,hj⟩:=hr.nat;exact⟨_,rfl,hF,⟨pp+1,by omega,Ia⟩,j,rfl,by have:=hj (by omega);omega⟩
  |8,ho=>
   injection ho with ho;subst ho
   obtain⟨b,ea,h1,h2,hc⟩:=hd 5 _ 13 rfl rfl ⟨⟨5,.data⟩,by simp,rfl,rfl⟩ (by decide);obtain⟨j,eb,hj⟩:=hd 7 _ 15 rfl rfl ⟨⟨7,.data⟩,by simp,rfl,rfl⟩ (by decide);have f1:=(RY.af a 13).trans ea;have f2:=(RY.af a 15).trans eb;have BB:(j:Int)<4:=by omega
   exact Or.inl ⟨.pointer (some ⟨b,j,none⟩),X,by simp[execOp,go_sem,f1,f2,BB],zR,b,j,rfl,h1,h2,g7.getD j ⟨#[]⟩,by simp[List.getD,List.getElem?_eq_getElem (l:=g7) (show j<g7.length from hj)],hc j hj⟩
  |9,ho=>
   injection ho with ho;subst ho
   obtain⟨b,j,ea,h1,h2,x,hx,hc⟩:=hd 8 _ 16 rfl rfl ⟨⟨8,.data⟩,by simp,rfl,rfl⟩ (by decide);have f1:=(RY.af a 16).trans ea;exact Or.inl ⟨.string x,X,by simp[execOp,go_sem,f1,hc],zR,x,hx,rfl⟩
  |10,ho=>
   injection ho with ho;subst ho
   obtain⟨x,hx,ea⟩:=hd 4 _ 12 rfl rfl ⟨⟨4,.data⟩,by simp,rfl,rfl⟩ (by decide);obtain⟨y,hy,eb⟩:=hd 9 _ 17 rfl rfl ⟨⟨9,.data⟩,by simp,rfl,rfl⟩ (by decide);have f1:=(RY.af a 12).trans ea;have f2:=(RY.af a 17).trans eb;exact Or.inl ⟨.agg #[.string x,.string y,.slice none 0 0],X,by simp[execOp,go_sem,f1,f2],zR,x,hx,y,hy,rfl⟩
  |11,ho=>
   injection ho with ho;subst ho
   exact Or.inl ⟨.pointer (some ⟨X.heap.size,0,none⟩),X.alloc (.cells #[.string {data:=#[]},.string {data:=#[]},.slice none 0 0] 41),by simp[execOp,go_sem],ae zR _,X.heap.size,rfl,by have:=hX.bel.size;omega,hR.own.lt,al.new X [.string {data:=#[]},.string {data:=#[]},.slice none 0 0] 41 _ (by simp)⟩
  |n+12,ho=>omega
 ·intro a X vals pp hX hR wT hk hV hd;obtain⟨kd,Ij,nm,yj,e18⟩:=hV 10 (by decide);obtain⟨q,e3,yC,BV,jM⟩:=hV 11 (by decide);have f18:=(hd 10 _ 18 rfl rfl ⟨⟨10,.data⟩,by simp,rfl,rfl⟩ (by decide)).trans e18;have f3:=(hd 11 _ 3 rfl rfl ⟨⟨11,.data⟩,by simp,rfl,rfl⟩ (by decide)).trans e3;have cp:X.there q 0 (#[.string kd,.string nm,.slice none 0 0]:Array Value).size:=aR jM.own _ _ (by simp);have m:Marks (fun b=>b=q) X (X.setCells q 0 [.string kd,.string nm,.slice none 0 0]):=aM (S:=fun b=>b=q) rfl _ _ _;exact⟨X.setCells q 0 [.string kd,.string nm,.slice none 0 0],RY.dW _ _ _ rfl f3 f18 cp (by kernel_rfl) (by simp[Value.oneCell']),q,kd,nm,e3,Ij,yj,hX.mks m (fun b e=>by have:b=q:=e;omega) QA.out,⟨pp,by omega,hR.mks m (fun b e=>by have:b=q:=e;omega)⟩,yC,dB _ _ _ jM.own,World.rangeAt_setCells_same _ _ _ _ cp⟩
 ·rintro vals vs X hK bg;obtain⟨Q,kd,nm,eq3,Ij,yj,RM,⟨p1,sq,mL⟩,yC,jM⟩:=hK;have q3:vs 3=_:=(bg 11 _ 3 rfl rfl).trans eq3;simp only[RY.aC,Act.put,List.setIfInBounds_toArray,List.set_cons_zero,List.set_cons_succ];rw[q3];generalize vs 8=s8,vs 9=s9,vs 10=s10,vs 11=s11,vs 12=s12,vs 13=s13,vs 14=s14,vs 15=s15,vs 16=s16,vs 17=s17,vs 18=s18;clear bg q3 eq3;obtain⟨L,hL⟩:∃ L,L=X.heap.size:=⟨_,rfl⟩
  have JA:Hid (DB W0 X R W0.heap.size Q L ⟨kd,nm,[]⟩ (.slice none 0 0)):=⟨FM.out.trans RM,qQ.out.fr RM (by have:=kW.out;have:=g9.out;omega),jM,k9,by have:=kW.out;have:=g9.out;have:=jM.own.lt;have:=Bi.out;omega⟩
  have iL:=uh mL;have Lv:=uh Ij;have BN:=uh yj;clear RM mL jM hL Ij yj yC;have HP:=uh (bb R v len p1 8 X iL.out (by omega) (by omega));go_wp2_with fail
  refine HP.out.mono ?_;rintro e W2 ⟨⟨rm,rfl,iJ⟩,fk,eR⟩;obtain⟨n,rfl,hn⟩:=iJ.nat;have hn8:n<8:=by have:=hn (by omega);omega
  have FO:=uh (JA.out.step fk iL.out eR);have gW:=uh eR;have EU:Hid (BQ p n (p1+1)):=by show BQ _ _ _;unfold BQ;omega
  clear iJ hn fk eR HP JA iL FM qQ HR QA Bi;go_wp2;go_loopw [4] (fun vi wr=>∃ (k q:Nat) (b:Pl.Bl) (bv:Value),k≤7∧vi=.int .i64 k∧DB W0 wr R W0.heap.size Q L b bv∧b.kind=kd∧b.lines.length+k≤7∧BlB 7 b∧BQ p k q∧Rd wr R v len q) (fun vi _=>(intOf vi).toNat)
  case atStart=>exact⟨n,p1+1,⟨kd,nm,[]⟩,_,by omega,rfl,FO.out,rfl,by simp;omega,⟨(lg _ Lv.out).2,zY _ BN.out,by simp,by simp⟩,EU.out,gW.out⟩
  case round=>
   obtain⟨k,q,b,bv,hk7,rfl,hD,Ij,eY,hB,hq,hR⟩:=hrel;obtain⟨ba,bc,HU⟩:=hD.dat.raw.bm;subst HU;have HD:=uh hD;have tY:=uh Ij;have mQ:=uh eY;have kq:=uh hB;have HQ:=uh hq;have gf:=uh hR;clear hD Ij eY hB hq hR FO gW EU;by_cases k0:k=0
   ·subst k0;go_upto_region 9 with fail
    have mN:=HD.out.box.at_;have gD:=HD.out.box.own.lt;have cp:wr.there W0.heap.size 0 (#[.string b.kind,.string b.name,.slice ba b.lines.length bc]:Array Value).size:=aR HD.out.res.own _ _ (by simp);obtain⟨we,bM⟩:∃ we,we=wr.setCells W0.heap.size 0 [.string b.kind,.string b.name,.slice ba b.lines.length bc]:=⟨_,rfl⟩
    have fT:we.rangeAt W0.heap.size 0 [.string b.kind,.string b.name,.slice ba b.lines.length bc]:=by rw[bM];exact World.rangeAt_setCells_same _ _ _ _ cp
    have hm:Marks (fun b=>b=W0.heap.size) wr we:=by rw[bM];exact aM (S:=fun b=>b=W0.heap.size) rfl _ _ _
    have ho:=HD.out.ord;have cj:Hid (Dat (fun _=>False) 0 W0.heap.size we bF [bT b.lines] [.slice ba b.lines.length bc]∧Fr R W0 we∧Rd we R v len q):=⟨Dat.lower (HD.out.dat.bo hm (fun b e=>by have:b=W0.heap.size:=e;omega)) (by omega),HD.out.fr.mks hm (fun b e=>by have:b=W0.heap.size:=e;omega) ho.1,gf.out.mks hm (fun b e=>by have:b=W0.heap.size:=e;omega)⟩
    clear hm ho;go_wp2_with (first|(refine wpList_load_mid rfl 41 _ rfl Q 0 rfl [.string b.kind,.string b.name,.slice ba b.lines.length bc] _ mN Tryz.underlying41 rfl (by kernel_rfl) ?_)|(refine wpList_store_mid rfl 41 _ _ rfl W0.heap.size 0 #[.string b.kind,.string b.name,.slice ba b.lines.length bc] rfl rfl cp (by kernel_rfl) (by simp[Value.oneCell']) ?_))
    first|rw[← bM]|(simp only[List.toList_toArray];rw[← bM])
    try simp only[Act.put]
    refine bodyPost_ret (v:=.agg #[.string b.kind,.string b.name,.slice ba b.lines.length bc]) (by simp[results,Tryz.results62,asAddr,run_loadVar_mid (P:=Tryz.prog) _ _ _ 41 [.string b.kind,.string b.name,.slice ba b.lines.length bc] _ fT Tryz.underlying41 rfl (by kernel_rfl)]) rfl ?_;exact⟨⟨b,_,rfl,cj.out.1,kq.out⟩,cj.out.2.1,q,by have:=IU HQ.out;omega,cj.out.2.2⟩
   obtain⟨k,rfl⟩:∃ k',k=k'+1:=⟨k - 1,by omega⟩
   have ec:(0:Int)<((k+1:Nat):Int):=by omega
   have x0:=HD.out.box.get 0 _ rfl;have xl:=HD.out.box.own.lt;have HL:=uh (D4 R v len q b.kind wr gf.out (by have:=IU HQ.out;omega) (by rw[tY.out];exact(lg _ Lv.out).1));go_wp2_with fail
   refine HL.out.mono ?_;rintro e W3 ⟨⟨key,wv,ws,rfl,My,gh,Me,qT⟩,nR,q3,NO,mC⟩;obtain⟨wa,wc,L8⟩:=TxR.shape My;subst L8;obtain⟨W4,qZ⟩:∃ W4,W4=W3.alloc (.cells #[.string key,.slice wa ws.length wc] 46):=⟨_,rfl⟩
   obtain⟨BX,qy⟩:∃ BX,BX=W3.heap.size:=⟨_,rfl⟩
   have tT:Bel W3 W4:=by rw[qZ];exact ae zR _
   have kr:Hid (al W4 BX 46 [.string key,.slice wa ws.length wc]):=by show al _ _ _ _;rw[qZ,qy];exact al.new _ _ _ _ rfl
   obtain⟨Fx,rx,_,fx⟩:=My.done;have ue:Hid (Dat (fun _=>False) 0 L W4 bB [.row ws.length (txD ws)] [.slice wa ws.length wc]):=Dat.later ⟨Fx,rx,fun b hb=>Or.inr (by have:=fx b hb;have:=HD.out.ord;omega)⟩ tT;have wh:=uh ((HD.out.step nR gf.out mC).later tT);have nz:=uh (mC.later tT);have wj:Hid (LnB ⟨key,ws⟩):=by
    obtain⟨r,hr,e⟩:=qT;exact⟨by rw[← e];exact AG _ r hr,gh,Me⟩
   obtain⟨l,hl⟩:∃ l,l=Pl.ai b.kind:=⟨_,rfl⟩
   rw[← hl]at qT;obtain⟨ri,OE,Ow⟩:=zK qT;have BY:=uh hl;have MW:=uh Ow;have r6:Hid (∀ X,Calls Tryz.prog 54 #[.string b.kind,.string key] X fun e w'=>e=.returned (.int .i64 (ri:Int))∧Bel X w'):=fun X=>by
    have:=jz b.kind key X;rw[← BY.out,OE]at this;exact this
   obtain⟨mn,qj⟩:∃ mn,mn=(l.getD ri Pl.bq).many:=⟨_,rfl⟩
   have HMN:=uh qj;have BK:=uh NO;go_upto_region 6 with fail
   rw[← qZ,← qy];clear qZ qy tT My gh Me qT nR NO mC hl OE Ow qj rx fx x0 xl HL HD gf ec;have xa:=wh.out.box.at_;have xl:=wh.out.box.own.lt;have ya:=kr.out.at_;have yl:=kr.out.own.lt;have HK:=uh (GZ b ⟨key,ws⟩ (.slice ba b.lines.length bc) (.slice wa ws.length wc) W4 wh.out.dat.raw ue.out.raw (by have:=mQ.out;omega));obtain⟨kc,Qp⟩:∃ kc,kc=Pl.aI b.lines (⟨key,ws⟩:Pl.Ln).key:=⟨_,rfl⟩
   obtain⟨sc,FC⟩:∃ sc,sc=Pl.gR b.lines ⟨key,ws⟩:=⟨_,rfl⟩
   rw[← Qp,← FC]at HK;clear Qp FC;go_upto_region 7 with(first|(refine wpList_load_mid rfl 41 _ rfl Q 0 rfl [.string b.kind,.string b.name,.slice ba b.lines.length bc] _ xa Tryz.underlying41 rfl (by kernel_rfl) ?_)|(refine wpList_load_mid rfl 46 _ rfl BX 0 rfl [.string key,.slice wa ws.length wc] _ ya Tryz.underlying46 rfl (by kernel_rfl) ?_)|(go_at_call 84;refine HK.out.mono ?_;rintro e W6 ⟨rfl,oz⟩))
   have Mz:=uh (wh.out.later oz);have wP:=uh (kr.out.later oz);have EM:=uh (ue.out.later oz);have Bx:=uh (nz.out.later oz);have uf:=uh Mz.out.box;clear oz xa xl ya yl HK wh kr ue nz;by_cases hs:sc=0
   rotate_left
   ·have zv:((sc:Int)==0)=false:=by simp;omega
    refine RY.aH W6 zR (Ky sc) (AI _) (by kernel_rfl) (by kernel_rfl) (by kernel_rfl) (by kernel_rfl) ?_ ?_
    ·intro ii o' ho a X hX hk hd;have zQ:=uf.out.later hX;have zQl:=zQ.own.lt;have zBX:=wP.out.later hX;have zBXl:=zBX.own.lt;match ii,ho with
     |0,ho=>
      injection ho with ho;subst ho
      have e7:a.tmps[7]?.getD undef=.int .i64 (sc:Int):=(RY.af a 7).trans ((hk 7 (by kernel_rfl)).trans rfl);exact Or.inl ⟨RY.au rfl,Or.inl ⟨.int .i64 (sc:Int),X,by simp[execOp,go_sem,e7],zR,rfl⟩⟩
     |1,ho=>
      injection ho with ho;subst ho
      have e35:a.tmps[35]?.getD undef=.int .i64 (sc:Int):=(RY.af a 35).trans (hd 0 _ 35 rfl rfl ⟨⟨0,.data⟩,by simp,rfl,rfl⟩);exact Or.inl ⟨RY.au rfl,Or.inl ⟨.bool false,X,by simp[execOp,go_sem,e35,zv],zR,rfl⟩⟩
     |2,ho=>
      injection ho with ho;subst ho
      have e36:a.tmps[36]?.getD undef=.bool false:=(RY.af a 36).trans (hd 1 _ 36 rfl rfl ⟨⟨1,.data⟩,by simp,rfl,rfl⟩);exact Or.inl ⟨RY.au rfl,Or.inl ⟨.bool false,X,by simp[execOp,go_sem,e36],zR,rfl⟩⟩
     |3,ho=>
      injection ho with ho;subst ho
      have gd:=hd 2 _ 37 rfl rfl ⟨⟨2,.guard⟩,by simp,rfl,rfl⟩;exact Or.inr ⟨(RY.aj rfl rfl rfl gd).trans rfl,rfl⟩
     |4,ho=>
      injection ho with ho;subst ho
      have gd:=hd 2 _ 37 rfl rfl ⟨⟨2,.guard⟩,by simp,rfl,rfl⟩;exact Or.inr ⟨(RY.aj rfl rfl rfl gd).trans rfl,rfl⟩
     |5,ho=>
      injection ho with ho;subst ho
      have gd:=hd 2 _ 37 rfl rfl ⟨⟨2,.guard⟩,by simp,rfl,rfl⟩;exact Or.inr ⟨(RY.aj rfl rfl rfl gd).trans rfl,rfl⟩
     |6,ho=>
      injection ho with ho;subst ho
      have gd:=hd 5 _ 40 rfl rfl ⟨⟨5,.guard⟩,by simp,rfl,rfl⟩;exact Or.inr ⟨RY.cR rfl rfl rfl gd,rfl⟩
     |7,ho=>
      injection ho with ho;subst ho
      have gd:=hd 5 _ 40 rfl rfl ⟨⟨5,.guard⟩,by simp,rfl,rfl⟩;exact Or.inr ⟨RY.cR rfl rfl rfl gd,rfl⟩
     |8,ho=>
      injection ho with ho;subst ho
      have gd:=hd 5 _ 40 rfl rfl ⟨⟨5,.guard⟩,by simp,rfl,rfl⟩;exact Or.inr ⟨RY.cR rfl rfl rfl gd,rfl⟩
     |9,ho=>
      injection ho with ho;subst ho
      have gd:=hd 5 _ 40 rfl rfl ⟨⟨5,.guard⟩,by simp,rfl,rfl⟩;exact Or.inr ⟨RY.cR rfl rfl rfl gd,rfl⟩
     |10,ho=>
      injection ho with ho;subst ho
      have gd:=hd 5 _ 40 rfl rfl ⟨⟨5,.guard⟩,by simp,rfl,rfl⟩;exact Or.inr ⟨RY.cR rfl rfl rfl gd,rfl⟩
     |11,ho=>
      injection ho with ho;subst ho
      have gd:=hd 5 _ 40 rfl rfl ⟨⟨5,.guard⟩,by simp,rfl,rfl⟩;exact Or.inr ⟨RY.cR rfl rfl rfl gd,rfl⟩
     |12,ho=>
      injection ho with ho;subst ho
      have gd:=hd 5 _ 40 rfl rfl ⟨⟨5,.guard⟩,by simp,rfl,rfl⟩;exact Or.inr ⟨RY.cR rfl rfl rfl gd,rfl⟩
     |13,ho=>
      injection ho with ho;subst ho
      have gd:=hd 5 _ 40 rfl rfl ⟨⟨5,.guard⟩,by simp,rfl,rfl⟩;exact Or.inr ⟨RY.cR rfl rfl rfl gd,rfl⟩
     |14,ho=>
      injection ho with ho;subst ho
      have gd:=hd 5 _ 40 rfl rfl ⟨⟨5,.guard⟩,by simp,rfl,rfl⟩;exact Or.inr ⟨RY.cR rfl rfl rfl gd,rfl⟩
     |15,ho=>
      injection ho with ho;subst ho
      have gd:=hd 5 _ 40 rfl rfl ⟨⟨5,.guard⟩,by simp,rfl,rfl⟩;exact Or.inr ⟨RY.cR rfl rfl rfl gd,rfl⟩
     |16,ho=>
      injection ho with ho;subst ho
      have gd:=hd 5 _ 40 rfl rfl ⟨⟨5,.guard⟩,by simp,rfl,rfl⟩;exact Or.inr ⟨RY.cR rfl rfl rfl gd,rfl⟩
     |17,ho=>
      injection ho with ho;subst ho
      have gd:=hd 2 _ 37 rfl rfl ⟨⟨2,.guard⟩,by simp,rfl,rfl⟩;exact Or.inr ⟨(RY.aj rfl rfl rfl gd).trans rfl,rfl⟩
     |18,ho=>
      injection ho with ho;subst ho
      have e37:a.tmps[37]?.getD undef=.bool false:=(RY.af a 37).trans (hd 2 _ 37 rfl rfl ⟨⟨2,.data⟩,by simp,rfl,rfl⟩);have e52:a.tmps[52]?.getD undef=undef:=(RY.af a 52).trans (hd 17 _ 52 rfl rfl ⟨⟨17,.data⟩,by simp,rfl,rfl⟩);exact Or.inl ⟨RY.au rfl,Or.inl ⟨.bool false,X,by simp[execOp,go_sem,e37,e52],zR,rfl⟩⟩
     |n+19,ho=>simp at ho
    intro X vs hX bg;have q53:vs 53=_:=bg 18 _ 53 rfl rfl;simp only[RY.aC,Act.put,List.setIfInBounds_toArray,List.set_cons_zero,List.set_cons_succ];rw[q53];generalize vs 35=lN;generalize vs 36=lI;generalize vs 37=lR;generalize vs 38=nu;generalize vs 39=nS;generalize vs 40=s40;generalize vs 41=s41;generalize vs 42=s42;generalize vs 43=s43;generalize vs 44=s44;generalize vs 45=s45;generalize vs 46=s46;generalize vs 47=s47;generalize vs 48=s48;generalize vs 49=s49;generalize vs 50=yp;generalize vs 51=s51;generalize vs 52=s52;clear bg q53;have qu:=uh (Mz.out.later hX);have Ib:=uh (wP.out.later hX);have BL:=uh (EM.out.later hX);have Be:=uh (Bx.out.later hX);clear hX Mz wP EM Bx uf;go_wp2;go_roundw
    case rel=>exact⟨k,q3,b,_,by omega,by go_num,qu.out,tY.out,by have:=mQ.out;omega,kq.out,nW HQ.out BK.out,Be.out⟩
    case measure=>simp[intOf]
   have zv:((sc:Int)==0)=true:=by simp;omega
   by_cases Sl:kc=0
   ·have Lc:((kc:Int)==0)=true:=by simp;omega
    refine RY.aH W6 zR (JV sc kc) (z6 _ _) (by kernel_rfl) (by kernel_rfl) (by kernel_rfl) (by kernel_rfl) ?_ ?_
    ·intro ii o' ho a X hX hk hd;have zQ:=uf.out.later hX;have zQl:=zQ.own.lt;have zBX:=wP.out.later hX;have zBXl:=zBX.own.lt;match ii,ho with
     |0,ho=>
      injection ho with ho;subst ho
      have e7:a.tmps[7]?.getD undef=.int .i64 (sc:Int):=(RY.af a 7).trans ((hk 7 (by kernel_rfl)).trans rfl);exact Or.inl ⟨RY.au rfl,Or.inl ⟨.int .i64 (sc:Int),X,by simp[execOp,go_sem,e7],zR,rfl⟩⟩
     |1,ho=>
      injection ho with ho;subst ho
      have e35:a.tmps[35]?.getD undef=.int .i64 (sc:Int):=(RY.af a 35).trans (hd 0 _ 35 rfl rfl ⟨⟨0,.data⟩,by simp,rfl,rfl⟩);exact Or.inl ⟨RY.au rfl,Or.inl ⟨.bool true,X,by simp[execOp,go_sem,e35,zv],zR,rfl⟩⟩
     |2,ho=>
      injection ho with ho;subst ho
      have e36:a.tmps[36]?.getD undef=.bool true:=(RY.af a 36).trans (hd 1 _ 36 rfl rfl ⟨⟨1,.data⟩,by simp,rfl,rfl⟩);exact Or.inl ⟨RY.au rfl,Or.inl ⟨.bool true,X,by simp[execOp,go_sem,e36],zR,rfl⟩⟩
     |3,ho=>
      injection ho with ho;subst ho
      have gd:=hd 2 _ 37 rfl rfl ⟨⟨2,.guard⟩,by simp,rfl,rfl⟩;have e6:a.tmps[6]?.getD undef=.int .i64 (kc:Int):=(RY.af a 6).trans ((hk 6 (by kernel_rfl)).trans rfl);exact Or.inl ⟨(RY.aj rfl rfl rfl gd).trans rfl,Or.inl ⟨.int .i64 (kc:Int),X,by simp[execOp,go_sem,e6],zR,rfl⟩⟩
     |4,ho=>
      injection ho with ho;subst ho
      have gd:=hd 2 _ 37 rfl rfl ⟨⟨2,.guard⟩,by simp,rfl,rfl⟩;have e38:a.tmps[38]?.getD undef=.int .i64 (kc:Int):=(RY.af a 38).trans (hd 3 _ 38 rfl rfl ⟨⟨3,.data⟩,by simp,rfl,rfl⟩);exact Or.inl ⟨(RY.aj rfl rfl rfl gd).trans rfl,Or.inl ⟨.bool true,X,by simp[execOp,go_sem,e38,Lc],zR,rfl⟩⟩
     |5,ho=>
      injection ho with ho;subst ho
      have gd:=hd 2 _ 37 rfl rfl ⟨⟨2,.guard⟩,by simp,rfl,rfl⟩;have e39:a.tmps[39]?.getD undef=.bool true:=(RY.af a 39).trans (hd 4 _ 39 rfl rfl ⟨⟨4,.data⟩,by simp,rfl,rfl⟩);exact Or.inl ⟨(RY.aj rfl rfl rfl gd).trans rfl,Or.inl ⟨.bool true,X,by simp[execOp,go_sem,e39],zR,rfl⟩⟩
     |6,ho=>
      injection ho with ho;subst ho
      have gd:=hd 5 _ 40 rfl rfl ⟨⟨5,.guard⟩,by simp,rfl,rfl⟩;exact Or.inr ⟨(RY.aj rfl rfl rfl gd).trans rfl,rfl⟩
     |7,ho=>
      injection ho with ho;subst ho
      have gd:=hd 5 _ 40 rfl rfl ⟨⟨5,.guard⟩,by simp,rfl,rfl⟩;exact Or.inr ⟨(RY.aj rfl rfl rfl gd).trans rfl,rfl⟩
     |8,ho=>
      injection ho with ho;subst ho
      have gd:=hd 5 _ 40 rfl rfl ⟨⟨5,.guard⟩,by simp,rfl,rfl⟩;exact Or.inr ⟨(RY.aj rfl rfl rfl gd).trans rfl,rfl⟩
     |9,ho=>
      injection ho with ho;subst ho
      have gd:=hd 5 _ 40 rfl rfl ⟨⟨5,.guard⟩,by simp,rfl,rfl⟩;exact Or.inr ⟨(RY.aj rfl rfl rfl gd).trans rfl,rfl⟩
     |10,ho=>
      injection ho with ho;subst ho
      have gd:=hd 5 _ 40 rfl rfl ⟨⟨5,.guard⟩,by simp,rfl,rfl⟩;exact Or.inr ⟨(RY.aj rfl rfl rfl gd).trans rfl,rfl⟩
     |11,ho=>
      injection ho with ho;subst ho
      have gd:=hd 5 _ 40 rfl rfl ⟨⟨5,.guard⟩,by simp,rfl,rfl⟩;exact Or.inr ⟨(RY.aj rfl rfl rfl gd).trans rfl,rfl⟩
     |12,ho=>
      injection ho with ho;subst ho
      have gd:=hd 5 _ 40 rfl rfl ⟨⟨5,.guard⟩,by simp,rfl,rfl⟩;exact Or.inr ⟨(RY.aj rfl rfl rfl gd).trans rfl,rfl⟩
     |13,ho=>
      injection ho with ho;subst ho
      have gd:=hd 5 _ 40 rfl rfl ⟨⟨5,.guard⟩,by simp,rfl,rfl⟩;exact Or.inr ⟨(RY.aj rfl rfl rfl gd).trans rfl,rfl⟩
     |14,ho=>
      injection ho with ho;subst ho
      have gd:=hd 5 _ 40 rfl rfl ⟨⟨5,.guard⟩,by simp,rfl,rfl⟩;exact Or.inr ⟨(RY.aj rfl rfl rfl gd).trans rfl,rfl⟩
     |15,ho=>
      injection ho with ho;subst ho
      have gd:=hd 5 _ 40 rfl rfl ⟨⟨5,.guard⟩,by simp,rfl,rfl⟩;exact Or.inr ⟨(RY.aj rfl rfl rfl gd).trans rfl,rfl⟩
     |16,ho=>
      injection ho with ho;subst ho
      have gd:=hd 5 _ 40 rfl rfl ⟨⟨5,.guard⟩,by simp,rfl,rfl⟩;exact Or.inr ⟨(RY.aj rfl rfl rfl gd).trans rfl,rfl⟩
     |17,ho=>
      injection ho with ho;subst ho
      have gd:=hd 2 _ 37 rfl rfl ⟨⟨2,.guard⟩,by simp,rfl,rfl⟩;have e40:a.tmps[40]?.getD undef=.bool true:=(RY.af a 40).trans (hd 5 _ 40 rfl rfl ⟨⟨5,.data⟩,by simp,rfl,rfl⟩);have e51:a.tmps[51]?.getD undef=undef:=(RY.af a 51).trans (hd 16 _ 51 rfl rfl ⟨⟨16,.data⟩,by simp,rfl,rfl⟩);exact Or.inl ⟨(RY.aj rfl rfl rfl gd).trans rfl,Or.inl ⟨.bool true,X,by simp[execOp,go_sem,e40,e51],zR,rfl⟩⟩
     |18,ho=>
      injection ho with ho;subst ho
      have e37:a.tmps[37]?.getD undef=.bool true:=(RY.af a 37).trans (hd 2 _ 37 rfl rfl ⟨⟨2,.data⟩,by simp,rfl,rfl⟩);have e52:a.tmps[52]?.getD undef=.bool true:=(RY.af a 52).trans (hd 17 _ 52 rfl rfl ⟨⟨17,.data⟩,by simp,rfl,rfl⟩);exact Or.inl ⟨RY.au rfl,Or.inl ⟨.bool true,X,by simp[execOp,go_sem,e37,e52],zR,rfl⟩⟩
     |n+19,ho=>simp at ho
    intro X vs hX bg;have q53:vs 53=_:=bg 18 _ 53 rfl rfl;simp only[RY.aC,Act.put,List.setIfInBounds_toArray,List.set_cons_zero,List.set_cons_succ];rw[q53];generalize vs 35=lN;generalize vs 36=lI;generalize vs 37=lR;generalize vs 38=nu;generalize vs 39=nS;generalize vs 40=s40;generalize vs 41=s41;generalize vs 42=s42;generalize vs 43=s43;generalize vs 44=s44;generalize vs 45=s45;generalize vs 46=s46;generalize vs 47=s47;generalize vs 48=s48;generalize vs 49=s49;generalize vs 50=yp;generalize vs 51=s51;generalize vs 52=s52;clear bg q53;have qu:=uh (Mz.out.later hX);have Ib:=uh (wP.out.later hX);have BL:=uh (EM.out.later hX);have Be:=uh (Bx.out.later hX);clear hX Mz wP EM Bx uf;have tx:=uh (jr (S:=fun _=>False) (B:=0) (lo:=L) b ⟨key,ws⟩ (.slice ba b.lines.length bc) (.slice wa ws.length wc) X qu.out.dat BL.out (by have:=mQ.out;omega) (by have:=qu.out.ord;omega));obtain⟨ls,gJ⟩:∃ ls,ls=Pl.ck b.kind b.lines ⟨key,ws⟩:=⟨_,rfl⟩
    rw[← gJ]at tx;have ie:Hid (ls.length=b.lines.length+1∧∀ y∈ls,y=⟨key,ws⟩∨y∈b.lines):=⟨by rw[gJ,Pl.jZ],fun y hy=>(Pl.rh _ _ _ _).1 (by rw[gJ]at hy;exact hy)⟩
    clear gJ;have xa:=qu.out.box.at_;have xl:=qu.out.box.own.lt;have ya:=Ib.out.at_;have yl:=Ib.out.own.lt;go_upto_region 4 with(first|(refine wpList_load_mid rfl 41 _ rfl Q 0 rfl [.string b.kind,.string b.name,.slice ba b.lines.length bc] _ xa Tryz.underlying41 rfl (by kernel_rfl) ?_)|(refine wpList_load_mid rfl 46 _ rfl BX 0 rfl [.string key,.slice wa ws.length wc] _ ya Tryz.underlying46 rfl (by kernel_rfl) ?_)|(go_at_call 14;refine tx.out.mono ?_;rintro e W8 ⟨c,rfl,yA,nM⟩;obtain⟨pa,pm,hc,yv⟩:=mc yA;have lQ:c=[.string b.kind,.string b.name,.slice pa ls.length pm]:=hc;clear hc;subst lQ;have kC:=uh (qu.out.later nM);have B3:=uh (Be.out.later nM);have yt:=uh yv;have cp:W8.there Q 0 (#[.string b.kind,.string b.name,.slice pa ls.length pm]:Array Value).size:=aR kC.out.box.own _ _ (by simp);clear yv yA nM xa xl ya yl;have xl:=kC.out.box.own.lt)|(refine wpList_store_mid rfl 41 _ _ rfl Q 0 #[.string b.kind,.string b.name,.slice pa ls.length pm] rfl rfl cp (by kernel_rfl) (by simp[Value.oneCell']) ?_))
    obtain⟨W9,qA⟩:∃ W9,W9=W8.setCells Q 0 [.string b.kind,.string b.name,.slice pa ls.length pm]:=⟨_,rfl⟩
    have K5:Hid (DB W0 W9 R W0.heap.size Q L ⟨b.kind,b.name,ls⟩ (.slice pa ls.length pm)):=by show DB _ _ _ _ _ _ _ _;rw[qA];exact kC.out.put yt.out
    have iG:Hid (Rd W9 R v len q3):=by show Rd _ _ _ _ _;rw[qA];exact B3.out.mks (aM (S:=fun b=>b=Q) rfl _ _ _) (fun b e=>by have:b=Q:=e;have:=kC.out.ord;omega)
    first|rw[← qA]|(simp only[List.toList_toArray];rw[← qA])
    clear qA cp xl kC B3 yt tx;go_wp2;go_roundw
    case rel=>exact⟨k,q3,⟨b.kind,b.name,ls⟩,_,by omega,by go_num,K5.out,tY.out,by have:=mQ.out;have:=ie.out.1;show ls.length+k≤7;omega,⟨kq.out.1,kq.out.2.1,by have:=mQ.out;have:=ie.out.1;show ls.length≤7;omega,fun y hy=>by rcases ie.out.2 y hy with rfl|h;exact wj.out;exact kq.out.2.2.2 y h⟩,nW HQ.out BK.out,iG.out⟩
    case measure=>simp[intOf]
   have Lc:((kc:Int)==0)=false:=by simp;omega
   refine RY.aH W6 zR (KR Q BX b key sc kc ri l mn) (Ah _ _ _ _ _ _ _ _ _) (by kernel_rfl) (by kernel_rfl) (by kernel_rfl) (by kernel_rfl) ?_ ?_
   ·intro ii o' ho a X hX hk hd;have zQ:=uf.out.later hX;have zQl:=zQ.own.lt;have zBX:=wP.out.later hX;have zBXl:=zBX.own.lt;match ii,ho with
    |0,ho=>
     injection ho with ho;subst ho
     have e7:a.tmps[7]?.getD undef=.int .i64 (sc:Int):=(RY.af a 7).trans ((hk 7 (by kernel_rfl)).trans rfl);exact Or.inl ⟨RY.au rfl,Or.inl ⟨.int .i64 (sc:Int),X,by simp[execOp,go_sem,e7],zR,rfl⟩⟩
    |1,ho=>
     injection ho with ho;subst ho
     have e35:a.tmps[35]?.getD undef=.int .i64 (sc:Int):=(RY.af a 35).trans (hd 0 _ 35 rfl rfl ⟨⟨0,.data⟩,by simp,rfl,rfl⟩);exact Or.inl ⟨RY.au rfl,Or.inl ⟨.bool true,X,by simp[execOp,go_sem,e35,zv],zR,rfl⟩⟩
    |2,ho=>
     injection ho with ho;subst ho
     have e36:a.tmps[36]?.getD undef=.bool true:=(RY.af a 36).trans (hd 1 _ 36 rfl rfl ⟨⟨1,.data⟩,by simp,rfl,rfl⟩);exact Or.inl ⟨RY.au rfl,Or.inl ⟨.bool true,X,by simp[execOp,go_sem,e36],zR,rfl⟩⟩
    |3,ho=>
     injection ho with ho;subst ho
     have gd:=hd 2 _ 37 rfl rfl ⟨⟨2,.guard⟩,by simp,rfl,rfl⟩;have e6:a.tmps[6]?.getD undef=.int .i64 (kc:Int):=(RY.af a 6).trans ((hk 6 (by kernel_rfl)).trans rfl);exact Or.inl ⟨(RY.aj rfl rfl rfl gd).trans rfl,Or.inl ⟨.int .i64 (kc:Int),X,by simp[execOp,go_sem,e6],zR,rfl⟩⟩
    |4,ho=>
     injection ho with ho;subst ho
     have gd:=hd 2 _ 37 rfl rfl ⟨⟨2,.guard⟩,by simp,rfl,rfl⟩;have e38:a.tmps[38]?.getD undef=.int .i64 (kc:Int):=(RY.af a 38).trans (hd 3 _ 38 rfl rfl ⟨⟨3,.data⟩,by simp,rfl,rfl⟩);exact Or.inl ⟨(RY.aj rfl rfl rfl gd).trans rfl,Or.inl ⟨.bool false,X,by simp[execOp,go_sem,e38,Lc],zR,rfl⟩⟩
    |5,ho=>
     injection ho with ho;subst ho
     have gd:=hd 2 _ 37 rfl rfl ⟨⟨2,.guard⟩,by simp,rfl,rfl⟩;have e39:a.tmps[39]?.getD undef=.bool false:=(RY.af a 39).trans (hd 4 _ 39 rfl rfl ⟨⟨4,.data⟩,by simp,rfl,rfl⟩);exact Or.inl ⟨(RY.aj rfl rfl rfl gd).trans rfl,Or.inl ⟨.bool false,X,by simp[execOp,go_sem,e39],zR,rfl⟩⟩
    |6,ho=>
     injection ho with ho;subst ho
     have gd:=hd 5 _ 40 rfl rfl ⟨⟨5,.guard⟩,by simp,rfl,rfl⟩;have e3:a.tmps[3]?.getD undef=.pointer (some ⟨Q,0,none⟩):=(RY.af a 3).trans ((hk 3 (by kernel_rfl)).trans rfl);exact Or.inl ⟨(RY.aj rfl rfl rfl gd).trans rfl,Or.inl ⟨.pointer (some ⟨Q,0,none⟩),X,by simp[execOp,go_sem,e3],zR,rfl⟩⟩
    |7,ho=>
     injection ho with ho;subst ho
     have gd:=hd 5 _ 40 rfl rfl ⟨⟨5,.guard⟩,by simp,rfl,rfl⟩;have e41:a.tmps[41]?.getD undef=.pointer (some ⟨Q,0,none⟩):=(RY.af a 41).trans (hd 6 _ 41 rfl rfl ⟨⟨6,.data⟩,by simp,rfl,rfl⟩);have ycl_:=zQ.get 0 _ rfl;exact Or.inl ⟨(RY.aj rfl rfl rfl gd).trans rfl,Or.inl ⟨.string b.kind,X,by simp[execOp,go_sem,e41,ycl_],zR,rfl⟩⟩
    |8,ho=>
     injection ho with ho;subst ho
     have gd:=hd 5 _ 40 rfl rfl ⟨⟨5,.guard⟩,by simp,rfl,rfl⟩;have e42:a.tmps[42]?.getD undef=.string b.kind:=(RY.af a 42).trans (hd 7 _ 42 rfl rfl ⟨⟨7,.data⟩,by simp,rfl,rfl⟩);refine Or.inl ⟨(RY.aj rfl rfl rfl gd).trans rfl,Or.inr ⟨27,#[.string b.kind],by simp[go_sem,e42],(dZ b.kind X).mono ?_⟩⟩;rintro e W' ⟨lv,F,rfl,hr,nd,fr,hb⟩;rw[← BY.out]at hr;obtain⟨pl,ol,cl,a1,c1,a3,n3,c3,F4,hv,dr,hg,_⟩:=rX hr MW.out;subst hv;exact⟨_,rfl,hb,pl,ol,cl,rfl,dr,by rw[HMN.out];exact aE hg 2 _ rfl⟩
    |9,ho=>
     injection ho with ho;subst ho
     have gd:=hd 5 _ 40 rfl rfl ⟨⟨5,.guard⟩,by simp,rfl,rfl⟩;have e3:a.tmps[3]?.getD undef=.pointer (some ⟨Q,0,none⟩):=(RY.af a 3).trans ((hk 3 (by kernel_rfl)).trans rfl);exact Or.inl ⟨(RY.aj rfl rfl rfl gd).trans rfl,Or.inl ⟨.pointer (some ⟨Q,0,none⟩),X,by simp[execOp,go_sem,e3],zR,rfl⟩⟩
    |10,ho=>
     injection ho with ho;subst ho
     have gd:=hd 5 _ 40 rfl rfl ⟨⟨5,.guard⟩,by simp,rfl,rfl⟩;have e44:a.tmps[44]?.getD undef=.pointer (some ⟨Q,0,none⟩):=(RY.af a 44).trans (hd 9 _ 44 rfl rfl ⟨⟨9,.data⟩,by simp,rfl,rfl⟩);have ycl_:=zQ.get 0 _ rfl;exact Or.inl ⟨(RY.aj rfl rfl rfl gd).trans rfl,Or.inl ⟨.string b.kind,X,by simp[execOp,go_sem,e44,ycl_],zR,rfl⟩⟩
    |11,ho=>
     injection ho with ho;subst ho
     have gd:=hd 5 _ 40 rfl rfl ⟨⟨5,.guard⟩,by simp,rfl,rfl⟩;have e5:a.tmps[5]?.getD undef=.pointer (some ⟨BX,0,none⟩):=(RY.af a 5).trans ((hk 5 (by kernel_rfl)).trans rfl);exact Or.inl ⟨(RY.aj rfl rfl rfl gd).trans rfl,Or.inl ⟨.pointer (some ⟨BX,0,none⟩),X,by simp[execOp,go_sem,e5],zR,rfl⟩⟩
    |12,ho=>
     injection ho with ho;subst ho
     have gd:=hd 5 _ 40 rfl rfl ⟨⟨5,.guard⟩,by simp,rfl,rfl⟩;have e46:a.tmps[46]?.getD undef=.pointer (some ⟨BX,0,none⟩):=(RY.af a 46).trans (hd 11 _ 46 rfl rfl ⟨⟨11,.data⟩,by simp,rfl,rfl⟩);have ycl_:=zBX.get 0 _ rfl;exact Or.inl ⟨(RY.aj rfl rfl rfl gd).trans rfl,Or.inl ⟨.string key,X,by simp[execOp,go_sem,e46,ycl_],zR,rfl⟩⟩
    |13,ho=>
     injection ho with ho;subst ho
     have gd:=hd 5 _ 40 rfl rfl ⟨⟨5,.guard⟩,by simp,rfl,rfl⟩;have e45:a.tmps[45]?.getD undef=.string b.kind:=(RY.af a 45).trans (hd 10 _ 45 rfl rfl ⟨⟨10,.data⟩,by simp,rfl,rfl⟩);have e47:a.tmps[47]?.getD undef=.string key:=(RY.af a 47).trans (hd 12 _ 47 rfl rfl ⟨⟨12,.data⟩,by simp,rfl,rfl⟩);refine Or.inl ⟨(RY.aj rfl rfl rfl gd).trans rfl,Or.inr ⟨54,#[.string b.kind,.string key],by simp[go_sem,e45,e47],(r6.out X).mono ?_⟩⟩;rintro e W' ⟨rfl,hb⟩;exact⟨_,rfl,hb,rfl⟩
    |14,ho=>
     injection ho with ho;subst ho
     have gd:=hd 5 _ 40 rfl rfl ⟨⟨5,.guard⟩,by simp,rfl,rfl⟩;obtain⟨pl,ol,cl,q43,dr,eN⟩:=hd 8 _ 43 rfl rfl ⟨⟨8,.data⟩,by simp,rfl,rfl⟩;have e43:a.tmps[43]?.getD undef=.slice (some ⟨pl,ol,none⟩) l.length cl:=(RY.af a 43).trans q43;have e48:a.tmps[48]?.getD undef=.int .i64 (ri:Int):=(RY.af a 48).trans (hd 13 _ 48 rfl rfl ⟨⟨13,.data⟩,by simp,rfl,rfl⟩);have gF:(0:Int)≤(ri:Int):=by omega
     have gG:(ri:Int)<(l.length:Int):=by have:=MW.out;omega
     exact Or.inl ⟨(RY.aj rfl rfl rfl gd).trans rfl,Or.inl ⟨.pointer (some ⟨pl,ol+ri*4,none⟩),X,by simp[execOp,go_sem,e43,e48,gF,gG],zR,pl,ol,rfl,dr,eN⟩⟩
    |15,ho=>
     injection ho with ho;subst ho
     have gd:=hd 5 _ 40 rfl rfl ⟨⟨5,.guard⟩,by simp,rfl,rfl⟩;obtain⟨pl,ol,q49,dr,eN⟩:=hd 14 _ 49 rfl rfl ⟨⟨14,.data⟩,by simp,rfl,rfl⟩;have e49:a.tmps[49]?.getD undef=.pointer (some ⟨pl,ol+ri*4,none⟩):=(RY.af a 49).trans q49;exact Or.inl ⟨(RY.aj rfl rfl rfl gd).trans rfl,Or.inl ⟨.pointer (some ⟨pl,ol+ri*4+2,none⟩),X,by simp[execOp,go_sem,e49],zR,pl,ol,rfl,dr,eN⟩⟩
    |16,ho=>
     injection ho with ho;subst ho
     have gd:=hd 5 _ 40 rfl rfl ⟨⟨5,.guard⟩,by simp,rfl,rfl⟩;obtain⟨pl,ol,q50,dr,eN⟩:=hd 15 _ 50 rfl rfl ⟨⟨15,.data⟩,by simp,rfl,rfl⟩;have e50:a.tmps[50]?.getD undef=.pointer (some ⟨pl,ol+ri*4+2,none⟩):=(RY.af a 50).trans q50;exact Or.inl ⟨(RY.aj rfl rfl rfl gd).trans rfl,Or.inl ⟨.bool mn,X,by simp[execOp,go_sem,e50,eN],zR,rfl⟩⟩
    |17,ho=>
     injection ho with ho;subst ho
     have gd:=hd 2 _ 37 rfl rfl ⟨⟨2,.guard⟩,by simp,rfl,rfl⟩;have e40:a.tmps[40]?.getD undef=.bool false:=(RY.af a 40).trans (hd 5 _ 40 rfl rfl ⟨⟨5,.data⟩,by simp,rfl,rfl⟩);have e51:a.tmps[51]?.getD undef=.bool mn:=(RY.af a 51).trans (hd 16 _ 51 rfl rfl ⟨⟨16,.data⟩,by simp,rfl,rfl⟩);exact Or.inl ⟨(RY.aj rfl rfl rfl gd).trans rfl,Or.inl ⟨.bool mn,X,by simp[execOp,go_sem,e40,e51],zR,rfl⟩⟩
    |18,ho=>
     injection ho with ho;subst ho
     have e37:a.tmps[37]?.getD undef=.bool true:=(RY.af a 37).trans (hd 2 _ 37 rfl rfl ⟨⟨2,.data⟩,by simp,rfl,rfl⟩);have e52:a.tmps[52]?.getD undef=.bool mn:=(RY.af a 52).trans (hd 17 _ 52 rfl rfl ⟨⟨17,.data⟩,by simp,rfl,rfl⟩);exact Or.inl ⟨RY.au rfl,Or.inl ⟨.bool mn,X,by simp[execOp,go_sem,e37,e52],zR,rfl⟩⟩
    |n+19,ho=>simp at ho
   intro X vs hX bg;have q53:vs 53=_:=bg 18 _ 53 rfl rfl;simp only[RY.aC,Act.put,List.setIfInBounds_toArray,List.set_cons_zero,List.set_cons_succ];rw[q53];generalize vs 35=lN;generalize vs 36=lI;generalize vs 37=lR;generalize vs 38=nu;generalize vs 39=nS;generalize vs 40=s40;generalize vs 41=s41;generalize vs 42=s42;generalize vs 43=s43;generalize vs 44=s44;generalize vs 45=s45;generalize vs 46=s46;generalize vs 47=s47;generalize vs 48=s48;generalize vs 49=s49;generalize vs 50=yp;generalize vs 51=s51;generalize vs 52=s52;clear bg q53;have qu:=uh (Mz.out.later hX);have Ib:=uh (wP.out.later hX);have BL:=uh (EM.out.later hX);have Be:=uh (Bx.out.later hX);clear hX Mz wP EM Bx uf;cases mn with
   |false=>
    go_wp2;go_roundw
    case rel=>exact⟨k,q3,b,_,by omega,by go_num,qu.out,tY.out,by have:=mQ.out;omega,kq.out,nW HQ.out BK.out,Be.out⟩
    case measure=>simp[intOf]
   |true=>
    have tx:=uh (jr (S:=fun _=>False) (B:=0) (lo:=L) b ⟨key,ws⟩ (.slice ba b.lines.length bc) (.slice wa ws.length wc) X qu.out.dat BL.out (by have:=mQ.out;omega) (by have:=qu.out.ord;omega));obtain⟨ls,gJ⟩:∃ ls,ls=Pl.ck b.kind b.lines ⟨key,ws⟩:=⟨_,rfl⟩
    rw[← gJ]at tx;have ie:Hid (ls.length=b.lines.length+1∧∀ y∈ls,y=⟨key,ws⟩∨y∈b.lines):=⟨by rw[gJ,Pl.jZ],fun y hy=>(Pl.rh _ _ _ _).1 (by rw[gJ]at hy;exact hy)⟩
    clear gJ;have xa:=qu.out.box.at_;have xl:=qu.out.box.own.lt;have ya:=Ib.out.at_;have yl:=Ib.out.own.lt;go_upto_region 4 with(first|(refine wpList_load_mid rfl 41 _ rfl Q 0 rfl [.string b.kind,.string b.name,.slice ba b.lines.length bc] _ xa Tryz.underlying41 rfl (by kernel_rfl) ?_)|(refine wpList_load_mid rfl 46 _ rfl BX 0 rfl [.string key,.slice wa ws.length wc] _ ya Tryz.underlying46 rfl (by kernel_rfl) ?_)|(go_at_call 14;refine tx.out.mono ?_;rintro e W8 ⟨c,rfl,yA,nM⟩;obtain⟨pa,pm,hc,yv⟩:=mc yA;have lQ:c=[.string b.kind,.string b.name,.slice pa ls.length pm]:=hc;clear hc;subst lQ;have kC:=uh (qu.out.later nM);have B3:=uh (Be.out.later nM);have yt:=uh yv;have cp:W8.there Q 0 (#[.string b.kind,.string b.name,.slice pa ls.length pm]:Array Value).size:=aR kC.out.box.own _ _ (by simp);clear yv yA nM xa xl ya yl;have xl:=kC.out.box.own.lt)|(refine wpList_store_mid rfl 41 _ _ rfl Q 0 #[.string b.kind,.string b.name,.slice pa ls.length pm] rfl rfl cp (by kernel_rfl) (by simp[Value.oneCell']) ?_))
    obtain⟨W9,qA⟩:∃ W9,W9=W8.setCells Q 0 [.string b.kind,.string b.name,.slice pa ls.length pm]:=⟨_,rfl⟩
    have K5:Hid (DB W0 W9 R W0.heap.size Q L ⟨b.kind,b.name,ls⟩ (.slice pa ls.length pm)):=by show DB _ _ _ _ _ _ _ _;rw[qA];exact kC.out.put yt.out
    have iG:Hid (Rd W9 R v len q3):=by show Rd _ _ _ _ _;rw[qA];exact B3.out.mks (aM (S:=fun b=>b=Q) rfl _ _ _) (fun b e=>by have:b=Q:=e;have:=kC.out.ord;omega)
    first|rw[← qA]|(simp only[List.toList_toArray];rw[← qA])
    clear qA cp xl kC B3 yt tx;go_wp2;go_roundw
    case rel=>exact⟨k,q3,⟨b.kind,b.name,ls⟩,_,by omega,by go_num,K5.out,tY.out,by have:=mQ.out;have:=ie.out.1;show ls.length+k≤7;omega,⟨kq.out.1,kq.out.2.1,by have:=mQ.out;have:=ie.out.1;show ls.length≤7;omega,fun y hy=>by rcases ie.out.2 y hy with rfl|h;exact wj.out;exact kq.out.2.2.2 y h⟩,nW HQ.out BK.out,iG.out⟩
    case measure=>simp[intOf]
end Go.Proofs.YtopjjknojnfhmaaGreatDoor
