import Derived.Deep.LoopGhost
import Derived.WalkKit
import Derived.LaidEql
import Derived.Stop.Asserts
import Derived.RowKitTokens
import Derived.Laws.Externs
import Derived.Test.YtopjjknojnfhmaaGreatDoorEPv
import Derived.Test.YtopjjknojnfhmaaGreatDoorEXc
namespace Go.Proofs.YtopjjknojnfhmaaGreatDoor.Pl
theorem rO:∀ n:Fin 16,fh (dd n.1)=(n.1:Int):=by decide+kernel
theorem n9:∀ (l t:List UInt8),gq (l.flatMap cq++34::t)=some (l,(l.flatMap cq).length+1)
 |[],t=>by rw[List.flatMap_nil,List.nil_append,gq,if_pos (by decide)];rfl
 |c::l,t=>by
  rw[List.flatMap_cons,List.append_assoc];by_cases hs:eC c=true
  ·have FU:32≤c.toNat∧c.toNat≤126∧c.toNat≠34∧c.toNat≠92:=by
    simp only[eC,Bool.and_eq_true,decide_eq_true_eq,bne_iff_ne]at hs;exact⟨hs.1.1.1,hs.1.1.2,hs.1.2,hs.2⟩
   have e:cq c=[c]:=by unfold cq;rw[if_pos hs]
   rw[e,List.singleton_append,gq,if_neg FU.2.2.1,if_neg FU.2.2.2,if_pos ⟨FU.1,FU.2.1⟩,n9 l t];simp
  ·have e:cq c=[92,dd (c.toNat / 16),dd (c.toNat % 16)]:=by unfold cq;rw[if_neg hs]
   have hc:=vP c;have h1:=rO ⟨c.toNat / 16,by omega⟩;have h2:=rO ⟨c.toNat % 16,by omega⟩;simp only at h1 h2;rw[e];show gq (92::(dd (c.toNat / 16)::dd (c.toNat % 16)::(l.flatMap cq++34::t)))=_;rw[gq,if_neg (by decide),if_pos (by decide),List.getD_cons_zero,List.getD_cons_succ,List.getD_cons_zero,h1,h2,if_pos ⟨by simp,by omega,by omega⟩];have e3:UInt8.ofNat (16*((c.toNat / 16:Nat):Int)+((c.toNat % 16:Nat):Int)).toNat=c:=by
    apply UInt8.toNat_inj.1;rw[UInt8.toNat_ofNat'];omega
   rw[e3];simp only[List.drop_succ_cons,List.drop_zero];rw[n9 l t];simp
theorem zt:∀ (l t:List UInt8),l.all bx=true→(l++32::t).takeWhile bx=l
 |[],t,_=>by rw[List.nil_append,List.takeWhile_cons];rfl
 |c::l,t,h=>by
  rw[List.all_cons,Bool.and_eq_true]at h;rw[List.cons_append,List.takeWhile_cons,if_pos h.1,zt l t h.2]
theorem D9 (l t:List UInt8) (m:Nat) (h:l.length≤200) (hm:m<8):bE (de l++32::t) m=(bE t (m+1)).map (⟨l.toArray⟩::·):=by
 have e32:bE (32::t) (m+1)=bE t (m+1):=by rw[bE,if_pos (by decide)]
 unfold de;split
 ·rename_i hb
  simp only[iu,Bool.and_eq_true,decide_eq_true_eq]at hb;cases l with
  |nil=>simp at hb
  |cons c r=>
   have hc:=hb.2;rw[List.all_cons,Bool.and_eq_true]at hc;have Rj:=hc.1;simp only[bx,Bool.and_eq_true,decide_eq_true_eq,bne_iff_ne]at Rj;have Qc:=zt (c::r) t hb.2;rw[List.cons_append]at Qc ⊢;have hn:fm c (r++32::t)=some (c::r,r.length):=by
    unfold fm;rw[if_neg (by omega),if_pos hc.1,Qc];rfl
   rw[Ce _ c m (c::r) r.length (by omega) (by omega) hn (by rw[List.drop_left];simp only[List.length_cons]at h;simp[behind,hm];omega),List.drop_left,e32]
 ·rw[List.cons_append,List.append_assoc];have hn:fm 34 (l.flatMap cq++([34]++32::t))=some (l,(l.flatMap cq).length+1):=by
   unfold fm;rw[if_pos (by decide)];exact n9 l (32::t)
  have hd:(l.flatMap cq++([34]++32::t)).drop ((l.flatMap cq).length+1)=32::t:=by
   rw[show l.flatMap cq++([34]++32::t)=(l.flatMap cq++[34])++32::t by simp];rw[show (l.flatMap cq).length+1=(l.flatMap cq++[34]).length by simp,List.drop_left]
  rw[Ce _ 34 m l _ (by decide) (by decide) hn (by rw[hd];simp[behind,hm];omega),hd,e32]
theorem lS:∀ (n:Nat) (l:List UInt8) (m:Nat),l.length≤n→∀ ws,bE l m=some ws→∀ w∈ws,w.size≤200
 |0,[],m,_,ws,h=>by rw[bE]at h;injection h with h;subst h;intro w hw;cases hw
 |n+1,[],m,_,ws,h=>by rw[bE]at h;injection h with h;subst h;intro w hw;cases hw
 |n+1,c::r,m,hl,ws,h=>by
  rw[List.length_cons]at hl;rw[bE]at h;split at h
  ·exact lS n r m (by omega) ws h
  ·split at h
   ·injection h with h;subst h;intro w hw;cases hw
   ·split at h
    ·cases h
    ·rename_i x k _
     split at h
     ·rename_i hc
      simp only[Bool.and_eq_true,decide_eq_true_eq]at hc;obtain⟨y,h1,h2⟩:=Option.map_eq_some_iff.1 h;subst h2;intro w hw;rcases List.mem_cons.1 hw with rfl|q
      ·show x.toArray.size≤200;simpa using hc.1.2
      ·exact lS n (r.drop k) (m+1) (by rw[List.length_drop];omega) y h1 w q
     ·cases h
end Go.Proofs.YtopjjknojnfhmaaGreatDoor.Pl
namespace Go.Proofs.YtopjjknojnfhmaaGreatDoor
open Go.RowKit Go.Deep
namespace RY
end RY
namespace Pl
def kD (s:List Bl) (ws:List ByteArray):Nat:=
 if ws.length≠2 then 2 else if (ai (ws.getD 0 aJ)).length=0 then 3 else if aT (ws.getD 1 aJ)=false then 4
 else if (gQ s (ws.getD 0 aJ) (ws.getD 1 aJ)).isSome then 9 else if 60≤s.length then 10 else 0
def pc (s:List Bl) (ws:List ByteArray):Bl:=if kD s ws=0 then ⟨ws.getD 0 aJ,ws.getD 1 aJ,[]⟩ else ⟨{data:=#[]},{data:=#[]},[]⟩
end Pl
namespace Pl
structure PS where
 acc:List Bl
 cur:Bl
 opn:Bool
def gN (st:PS) (ws:List ByteArray):Bool:=st.opn&&(decide (ws.length=1)&&((ws.getD 0 aJ).toList==[101,110,100]))
def eX (st:PS) (ws:List ByteArray):Nat:=
 if ws.length=0 then 0 else if gN st ws then 0 else if st.opn then gL st.cur ws else kD st.acc ws
def eH (st:PS) (ws:List ByteArray):PS:=
 if ws.length=0 then st else if gN st ws then ⟨dO st.acc st.cur,st.cur,false⟩ else if st.opn then ⟨st.acc,lz st.cur ws,true⟩ else ⟨st.acc,pc st.acc ws,true⟩
def dR (st:PS) (l:ByteArray):Nat:=match bE l.data.toList 0 with
 |none=>1
 |some ws=>eX st ws
def jh (st:PS) (l:ByteArray):PS:=match bE l.data.toList 0 with
 |none=>st
 |some ws=>eH st ws
def parseFrom (st:PS):List ByteArray→Nat→List Bl×Nat×Nat
 |[],i=>if st.opn then ([],i+1,8) else (st.acc,0,0)
 |l::r,i=>if dR st l=0 then parseFrom (jh st l) r (i+1) else ([],i+1,dR st l)
def C0:PS:=⟨[],⟨⟨#[]⟩,⟨#[]⟩,[]⟩,false⟩
def eW (t:ByteArray):List Bl×Nat×Nat:=
 if 20000<t.size then ([],0,11) else if 400<(fM t).length then ([],0,11) else parseFrom C0 (fM t) 0
theorem rB (ls:List ByteArray) (k:Nat) (h:k<ls.length):ls.drop k=ls.getD k aJ::ls.drop (k+1):=by
 rw[List.drop_eq_getElem_cons h];simp[h]
theorem lU:∀ (l acc:List UInt8) (x:List UInt8),x∈iS acc l→x.length≤acc.length+l.length
 |[],acc,x,h=>by
  rw[iS]at h;split at h
  ·cases h
  ·rw[List.mem_singleton]at h;subst h;simp
 |c::l,acc,x,h=>by
  rw[iS]at h;split at h
  ·rcases List.mem_cons.1 h with e|e
   ·subst e;omega
   ·have:=lU l [] x e;simp only[List.length_cons,List.length_nil]at*;omega
  ·have:=lU l (acc++[c]) x h;simp only[List.length_append,List.length_cons,List.length_nil]at*;omega
theorem Ao (t x:ByteArray) (h:x∈fM t):x.size≤t.size:=by
 obtain⟨y,hy,e⟩:=List.mem_map.1 h;have:=lU _ _ _ hy;rw[aD]at this;rw[← e];show y.toArray.size≤_;simpa using this
end Pl
theorem I1 {α:Type} {lt:α→α→Bool} {cmp:α→α→Int} (T:Tot lt cmp) (d:α) {l:List α} (h:l.Pairwise fun a b=>lt a b=true) (t:α) (p:α→Bool) (hp:∀ y∈l,p y=true↔cmp y t=0):(decide (cv lt l t<l.length)&&decide (cmp (l.getD (cv lt l t) d) t=0))=l.any p:=by
 rw[Bool.eq_iff_iff,Bool.and_eq_true,decide_eq_true_iff,decide_eq_true_iff,← uy T d h t,List.any_eq_true];exact⟨fun ⟨y,hy,e⟩=>⟨y,hy,(hp y hy).2 e⟩,fun ⟨y,hy,e⟩=>⟨y,hy,(hp y hy).1 e⟩⟩
theorem vO (kind name:ByteArray):∀ (l:List Pl.Bl) (i:Nat),(Pl.findF kind name l i).isSome=l.any (Pl.isB kind name)
 |[],_=>rfl
 |b::l,i=>by
  unfold Pl.findF;rw[List.any_cons];cases Pl.isB kind name b
  ·simpa using vO kind name l (i+1)
  ·rfl
theorem pJ (x y:Int):fC x y=0↔(x=0∧y=0):=by
 unfold fC;by_cases h:x=0
 ·rw[if_pos h];simp[h]
 ·rw[if_neg h];simp[h]
theorem GO (kind name:ByteArray) (y:Pl.Bl):Pl.isB kind name y=true↔dm y ⟨kind,name,[]⟩=0:=by
 unfold dm;rw[pJ,bp,bp,← Bool.and_eq_true];exact Iff.rfl
theorem Cx {A:List Pl.Bl} (h:A.Pairwise fun a b=>Pl.ahead a b=true) (BT:A.length≤60) (ws:List ByteArray) (ag:Bool) (oK:ag=(decide (cv Pl.ahead A ⟨ws.getD 0 Pl.aJ,ws.getD 1 Pl.aJ,[]⟩<A.length)&&decide (dm (A.getD (cv Pl.ahead A ⟨ws.getD 0 Pl.aJ,ws.getD 1 Pl.aJ,[]⟩) Pl.aN) ⟨ws.getD 0 Pl.aJ,ws.getD 1 Pl.aJ,[]⟩=0))):bgC A ws ag=Pl.kD A ws:=by
 rw[I1 rT Pl.aN h _ (Pl.isB (ws.getD 0 Pl.aJ) (ws.getD 1 Pl.aJ)) (fun y _=>GO _ _ y),← vO _ _ A 0]at oK;unfold bgC Pl.kD;rw[oK];have e:(A.length=60)=(60≤A.length):=by rw[eq_iff_iff];omega
 simp only[e];rfl
theorem pT (key:ByteArray):∀ (l:List Pl.Ru) (i k:Nat),Pl.dU key l i=some k→i≤k∧((l.getD (k - i) Pl.bq).key.toList==key.toList)=true
 |[],_,_,h=>by cases h
 |r::l,i,k,h=>by
  unfold Pl.dU at h;split at h
  ·rename_i e
   injection h with h
   subst h;rw[Nat.sub_self];exact⟨zE,e⟩
  ·obtain⟨h1,h2⟩:=pT key l (i+1) k h;refine⟨by omega, ?_⟩;rw[show k - i=(k - (i+1))+1 by omega,List.getD_cons_succ];exact h2
theorem FZ {a b:Option Nat} (h:Pl.ixI a=Pl.ixI b):a=b:=by
 cases a with
 |none=>
  cases b with
  |none=>rfl
  |some n=>exfalso;have q:(-1:Int)=(n:Int):=h;omega
 |some m=>
  cases b with
  |none=>exfalso;have q:(m:Int)=(-1:Int):=h;omega
  |some n=>have q:(m:Int)=(n:Int):=h;rw[show m=n by omega]
theorem Kz {l:List Pl.Ru} {a b:ByteArray} (h:Pl.bC l a=Pl.bC l b) (hs:(Pl.bC l b).isSome=true):a=b:=by
 obtain⟨j,hj⟩:=Option.isSome_iff_exists.1 hs;have h1:=(pT b l 0 j hj).2;have h2:=(pT a l 0 j (h.trans hj)).2;exact(iN h2).symm.trans (iN h1)
theorem DY {l:List Pl.Ru} (x:Pl.Ln) (hs:(Pl.bC l x.key).isSome=true) (y:Pl.Ln):((y.key.toList==x.key.toList)&&Pl.cH y.ws x.ws)=true↔dp l y x=0:=by
 unfold dp;rw[pJ,cJ,Bool.and_eq_true];have hw:Pl.cH y.ws x.ws=true↔cG y.ws x.ws=0:=by
  unfold Pl.cH;rw[Bool.and_eq_true,Bool.not_eq_true',Bool.not_eq_true'];constructor
  ·rintro⟨h1,h2⟩;by_cases e:cG y.ws x.ws=0
   ·exact e
   ·have:=KI.tri _ _ h1 e;rw[h2]at this;cases this
  ·intro e;have e':=(fu _ _).1 e;rw[e'];have hf:Pl.cM x.ws x.ws=false:=by
    cases q:Pl.cM x.ws x.ws
    ·rfl
    ·have:=(KI.neg _ _).2 q;rw[(fu x.ws x.ws).2 rfl]at this;omega
   exact⟨hf,hf⟩
 rw[hw];constructor
 ·rintro⟨h1,h2⟩;rw[iN h1];exact⟨rfl,h2⟩
 ·rintro⟨h1,h2⟩;refine⟨?_,h2⟩;rw[Kz (FZ h1) hs];simp
theorem add_eq {b:Pl.Bl} (h:b.lines.Pairwise fun a c=>Pl.aL b.kind a c=true) (Hp:∀ key,Pl.aI b.lines key≤10) (ws:List ByteArray) (ag:Bool) (oK:ag=(decide (cv (Pl.aL b.kind) b.lines (Pl.aY ws)<b.lines.length)&&decide (dp (Pl.ai b.kind) (b.lines.getD (cv (Pl.aL b.kind) b.lines (Pl.aY ws)) Pl.aK) (Pl.aY ws)=0))):
  adC (Pl.ai b.kind) (Pl.aI b.lines (Pl.aY ws).key) (Pl.aY ws) ag=Pl.gL b ws:=by
 unfold adC Pl.gL;cases lL:Pl.bC (Pl.ai b.kind) (Pl.aY ws).key with
 |none=>rfl
 |some j=>
  have hs:(Pl.bC (Pl.ai b.kind) (Pl.aY ws).key).isSome=true:=by rw[lL];rfl
  rw[I1 (rZ b.kind) Pl.aK h _ (fun y=>(y.key.toList==(Pl.aY ws).key.toList)&&Pl.cH y.ws (Pl.aY ws).ws) (fun y _=>DY _ hs y)]at oK;have e1:decide (0<Pl.gR b.lines (Pl.aY ws))=ag:=by
   rw[oK,Bool.eq_iff_iff,decide_eq_true_iff];unfold Pl.gR;rw[List.countP_pos_iff,List.any_eq_true]
  have e2:Pl.gj (Pl.ai b.kind) (Pl.aY ws).key=((Pl.ai b.kind).getD j Pl.bq).many:=by unfold Pl.gj;rw[lL]
  have e3:Pl.im (Pl.ai b.kind) (Pl.aY ws).key (Pl.aY ws).ws=Pl.bh b.kind (Pl.aY ws).key (Pl.aY ws).ws:=rfl;have e4:(Pl.aI b.lines (Pl.aY ws).key=10)=(10≤Pl.aI b.lines (Pl.aY ws).key):=by
   rw[eq_iff_iff];have:=Hp (Pl.aY ws).key;omega
  simp only[Option.isSome_some,Bool.true_eq_false,if_false,e1,e2,e3,e4]
theorem pR (st:Pl.PS) (ls:List ByteArray):∀ (n i:Nat),i+n≤ls.length→Pl.blank ls i (i+n)→Pl.parseFrom st (ls.drop i) i=Pl.parseFrom st (ls.drop (i+n)) (i+n)
 |0,_,_,_=>rfl
 |n+1,i,hl,hb=>by
  have h0:=hb i zE (by omega);rw[Pl.rB ls i (by omega),Pl.parseFrom];have e1:Pl.dR st (ls.getD i Pl.aJ)=0:=by unfold Pl.dR;rw[h0];rfl
  have e2:Pl.jh st (ls.getD i Pl.aJ)=st:=by unfold Pl.jh;rw[h0];rfl
  rw[if_pos e1,e2,pR st ls n (i+1) (by omega) (fun m h1 h2=>hb m (by omega) (by omega)),show i+1+n=i+(n+1) by omega]
theorem GQ (st:Pl.PS) (ls:List ByteArray) (j:Nat) (hj:j<ls.length):Pl.parseFrom st (ls.drop j) j=if Pl.dR st (ls.getD j Pl.aJ)=0 then Pl.parseFrom (Pl.jh st (ls.getD j Pl.aJ)) (ls.drop (j+1)) (j+1) else ([],j+1,Pl.dR st (ls.getD j Pl.aJ)):=by
 rw[Pl.rB ls j hj,Pl.parseFrom]
theorem vq {x:ByteArray} (h:Pl.bX x=true) (st:Pl.PS):Pl.dR st x=1:=by
 unfold Pl.bX at h;unfold Pl.dR;cases hc:Pl.bE x.data.toList 0 with
 |none=>rfl
 |some ws=>rw[hc]at h;cases h
theorem sW {x:ByteArray} (h:Pl.bX x=false) (st:Pl.PS):Pl.dR st x=Pl.eX st (Pl.aP x)∧Pl.jh st x=Pl.eH st (Pl.aP x):=by
 unfold Pl.bX at h;unfold Pl.dR Pl.jh Pl.aP;cases hc:Pl.bE x.data.toList 0 with
 |none=>rw[hc]at h;cases h
 |some ws=>exact⟨rfl,rfl⟩
theorem G7 (kind:ByteArray) (L:List Pl.Ln) (x:Pl.Ln) (key:ByteArray):Pl.aI (Pl.ck kind L x) key=Pl.aI L key+if Pl.dD x.key key then 1 else 0:=by
 unfold Pl.ck;rw[l9];unfold Pl.aI;rw[List.countP_append,List.countP_cons];have e:List.countP (fun x=>Pl.dD x.key key) L=List.countP (fun x=>Pl.dD x.key key) (L.take (cv (Pl.aL kind) L x))+List.countP (fun x=>Pl.dD x.key key) (L.drop (cv (Pl.aL kind) L x)):=by
  rw[← List.countP_append,List.take_append_drop]
 rw[e];omega
theorem rP {α:Type} (f:α→List Dt) (sh:List Sh) (hf:∀ x,(f x).length=sh.length) {W:World} {F:List Nat} {l:List α} {cs:List Value} (h:Rep W false (bf l.length sh) F (l.flatMap f) cs) (k:Nat) (hk:k≤l.length):
  ∃ F1 F2,F=F1++F2∧Rep W false (bf k sh) F1 ((l.take k).flatMap f) (cs.take (k*sh.length))∧Rep W false (bf (l.length - k) sh) F2 ((l.drop k).flatMap f) (cs.drop (k*sh.length)):=by
 have e:l.length=k+(l.length - k):=by omega
 rw[e,gn]at h;obtain⟨F1,F2,d1,d2,c1,c2,rfl,hd,rfl,h1,h2⟩:=Rep.cut _ h;have ko:d1.length=((l.take k).flatMap f).length:=by
  rw[h1.raw.typ.len,bj,fW f _ hf,List.length_take,Nat.min_eq_left hk]
 have LX:(l.take k).flatMap f++(l.drop k).flatMap f=d1++d2:=by rw[← List.flatMap_append,List.take_append_drop];exact hd
 obtain⟨e1,e2⟩:=List.append_inj LX ko.symm;have hc:c1.length=k*sh.length:=by rw[h1.raw.len,bj]
 refine⟨F1,F2,rfl, ?_, ?_⟩
 ·rw[e1,List.take_left' hc];exact h1
 ·rw[e2,List.drop_left' hc];exact h2
def ClM (rb:Nat) (A:List Pl.Bl) (bv:Value) (W:World):Prop:=
 ∃ cs F,W.ownsRow (rb+1) 41 3 bv A.length cs∧Rep W false (bf A.length ak) F (A.flatMap blD) cs∧F.Nodup∧(∀ b∈F,rb+1≤b)∧∀ g,bv.ownBlock=some g→g ∉ F
def OpM (rb:Nat) (A:List Pl.Bl) (cur:Pl.Bl) (pl g q:Nat) (W:World):Prop:=
 ∃ ca cb l1 lq cl FA FL FB,W.ownsRow (rb+1) 41 3 (.slice (some ⟨g,0,none⟩) (A.length+1) q) (A.length+1) (ca++[.string cur.kind,.string cur.name,.slice l1 cur.lines.length lq]++cb)∧ca.length=pl*3∧
  W.ownsRow (rb+1) 46 2 (.slice l1 cur.lines.length lq) cur.lines.length cl∧Rep W false (bf pl ak) FA ((A.take pl).flatMap blD) ca∧Rep W false (bf cur.lines.length aA) FL (cur.lines.flatMap lnD) cl∧Rep W false (bf (A.length - pl) ak) FB ((A.drop pl).flatMap blD) cb∧
  (FA++(FL++FB)).Nodup∧∀ b∈FA++(FL++FB),rb+1≤b∧b≠g∧(Value.slice l1 cur.lines.length lq).ownBlock≠some b
theorem ClM.frm {rb:Nat} {A:List Pl.Bl} {bv:Value} {W W':World} (h:ClM rb A bv W) (k:Frm (fun b=>b=rb) W W'):ClM rb A bv W':=by
 obtain⟨cs,F,h1,h2,h3,h4,h5⟩:=h;refine⟨cs,F,bK h1 k fun g hg e=> ?_,h2.frm k fun b hb e=> ?_,h3,h4,h5⟩
 ·have:=(cC h1 hg).1;omega
 ·have:=h4 b hb;omega
theorem OpM.frm {rb:Nat} {A:List Pl.Bl} {cur:Pl.Bl} {pl g q:Nat} {W W':World} (h:OpM rb A cur pl g q W) (k:Frm (fun b=>b=rb) W W'):OpM rb A cur pl g q W':=by
 obtain⟨ca,cb,l1,lq,cl,FA,FL,FB,h1,h2,h3,h4,h5,h6,h7,h8⟩:=h;refine⟨ca,cb,l1,lq,cl,FA,FL,FB,bK h1 k fun g hg e=> ?_,h2,bK h3 k fun g hg e=> ?_,h4.frm k fun b hb e=> ?_,h5.frm k fun b hb e=> ?_,h6.frm k fun b hb e=> ?_,h7,h8⟩
 ·have:=(cC h1 hg).1;omega
 ·have:=(cC h3 hg).1;omega
 ·have:=(h8 b (by simp[hb])).1;omega
 ·have:=(h8 b (by simp[hb])).1;omega
 ·have:=(h8 b (by simp[hb])).1;omega
theorem DW {rb:Nat} {A:List Pl.Bl} {p1:Option Addr} {q:Nat} {cs:List Value} {F:List Nat} {W W':World} {k n:ByteArray} {pl g' q':Nat}
  (fc:Rep W false (bf A.length ak) F (A.flatMap blD) cs) (jl:F.Nodup) (bR:∀ b∈F,rb+1≤b) (hg:∀ g,(Value.slice p1 A.length q).ownBlock=some g→g ∉ F) (dr:pl≤A.length)
  (IJ:W'.ownsRow (rb+1) 41 3 (.slice (some ⟨g',0,none⟩) (A.length+1) q') (A.length+1) (cs.take (pl*3)++[.string k,.string n,.slice none 0 0]++cs.drop (pl*3)))
  (hf:Frm (fun b=>b=rb∨(Value.slice p1 A.length q).ownBlock=some b) W W') (x9:p1=some ⟨g',0,none⟩∨W.heap.size≤g'):OpM rb A ⟨k,n,[]⟩ pl g' q' W':=by
 have Ov:cs.length=A.length*3:=by rw[fc.raw.len,bj];rfl
 have PU:Rep W' false (bf A.length ak) F (A.flatMap blD) cs:=fc.frm hf fun b hb e=>by
  rcases e with e|e
  ·have:=bR b hb;omega
  ·exact hg b e hb
 have hgF:∀ b∈F,b≠g':=fun b hb e=>by
  subst e;rcases x9 with e|e
  ·exact hg b (by rw[e];rfl) hb
  ·have:=fc.lt b hb;omega
 obtain⟨F1,F2,rfl,r1,r2⟩:=rP blD ak (fun _=>rfl) PU pl dr;refine⟨_,_,none,0,[],F1,[],F2,IJ, ?_,⟨rfl,.inl ⟨rfl,rfl⟩⟩,r1,.nil,r2,by simpa using jl,fun b hb=>⟨bR b (by simpa using hb),hgF b (by simpa using hb),by intro e;cases e⟩⟩;rw[List.length_take];have:pl*3≤A.length*3:=Nat.mul_le_mul_right 3 dr;omega
theorem Kl {rb:Nat} {A:List Pl.Bl} {cur:Pl.Bl} {pl g q:Nat} {W:World} (h:OpM rb A cur pl g q W) (dr:pl≤A.length) (hlen:cur.lines.length≤maxLen):ClM rb (A.take pl++cur::A.drop pl) (.slice (some ⟨g,0,none⟩) (A.length+1) q) W:=by
 obtain⟨ca,cb,l1,lq,cl,FA,FL,FB,h1,h2,h3,h4,h5,h6,h7,h8⟩:=h;have RB:FL.Nodup:=(List.nodup_append.1 (List.nodup_append.1 h7).2.1).1;obtain⟨G,r,n1,n2,n3⟩:=rj (sh:=aA) h3 h5 (fun e=>by rw[List.eq_nil_of_length_eq_zero e];rfl) hlen RB (fun b hb=>(h8 b (by simp[hb])).1) (fun b e hb=>(h8 b (by simp[hb])).2.2 e);have hG:∀ b∈G,rb+1≤b∧b≠g∧b ∉ FA∧b ∉ FB:=fun b hb=>by
  rcases n3 b hb with e|e
  ·obtain⟨i1,i2,i3⟩:=List.nodup_append.1 h7;obtain⟨j1,j2,j3⟩:=List.nodup_append.1 i2;exact⟨n2 b hb,(h8 b (by simp[e])).2.1,fun q=>i3 b q b (by simp[e]) rfl,fun q=>j3 b e b q rfl⟩
  ·exact⟨n2 b hb,fun q=>gv h1 h3 (by decide) (g:=g) rfl (by rw[← q];exact e),fun q=>(h8 b (by simp[q])).2.2 e,fun q=>(h8 b (by simp[q])).2.2 e⟩
 have sg:(A.take pl++cur::A.drop pl).length=A.length+1:=by
  rw[List.length_append,List.length_cons,List.length_take,List.length_drop];omega
 have hb:=bG cur.kind cur.name r;have bs:=h4.app (hb.app h6);have EA:bf (A.length+1) ak=bf pl ak++(ak++bf (A.length - pl) ak):=by
  rw[← bW,← gn];congr 1;omega
 refine⟨_,FA++(G++[]++FB),by rw[sg];exact h1, ?_, ?_, ?_, ?_⟩
 ·rw[sg,EA,List.flatMap_append,List.flatMap_cons,List.append_assoc ca];exact bs
 ·rw[List.append_nil];obtain⟨i1,i2,i3⟩:=List.nodup_append.1 h7;obtain⟨j1,j2,j3⟩:=List.nodup_append.1 i2;refine List.nodup_append.2 ⟨i1,List.nodup_append.2 ⟨n1,j2,fun a ha b hb e=>(hG a ha).2.2.2 (e ▸ hb)⟩,fun a ha b hb e=> ?_⟩;rcases List.mem_append.1 hb with q|q
  ·exact(hG b q).2.2.1 (e ▸ ha)
  ·exact i3 a ha b (by simp[q]) e
 ·intro b hb;rw[List.append_nil]at hb;rcases List.mem_append.1 hb with q|q
  ·exact(h8 b (by simp[q])).1
  ·rcases List.mem_append.1 q with q|q
   ·exact(hG b q).1
   ·exact(h8 b (by simp[q])).1
 ·intro b hb hq;injection hb with hb
  have gb:g=b:=hb;subst gb;rw[List.append_nil]at hq;rcases List.mem_append.1 hq with q|q
  ·exact(h8 _ (by simp[q])).2.1 rfl
  ·rcases List.mem_append.1 q with q|q
   ·exact(hG _ q).2.1 rfl
   ·exact(h8 _ (by simp[q])).2.1 rfl
theorem Cd {w:World} {ws:List ByteArray} {p o c m:Nat} {F:List Nat} (h:Rep w false bB F [.row ws.length (txD ws)] [.slice (some ⟨p,o,none⟩) (m+1) c]) (hm:ws.length=m+1):
  ∃ F',Rep w false bB F' [.row m (txD (ws.drop 1))] [.slice (if c=1 then some ⟨p,o,none⟩ else some ⟨p,o+1,none⟩) m (c - 1)]∧(F.Nodup→F'.Nodup)∧∀ b∈F',b∈F:=by
 obtain⟨x,l,rfl⟩:∃ x l,ws=x::l:=by
  cases ws with
  |nil=>simp at hm
  |cons x l=>exact⟨x,l,rfl⟩
 have hl:l.length=m:=by simpa using hm
 rw[hm]at h;unfold bB at h ⊢;cases h with
 |row _ _ _ _ _ _ u mm vs es G ho PD ht hn hr he h'=>
  cases h'
  rw[bW]at he;cases he with
  |s _ R5=>
   by_cases hc:c=1
   ·have oJ:m=0:=by omega
    have Bq:l=[]:=List.eq_nil_of_length_eq_zero (by omega);subst Bq;subst oJ;subst hc;exact⟨[],.emp _ _ _ rfl .nil,fun _=>List.nodup_nil,fun b hb=>by cases hb⟩
   ·rw[if_neg hc];rename_i cs2
    have mF:w.rangeAt p (o+1) cs2:=(dA (x:=[.string x]) (y:=cs2) hr).2;refine⟨p::(G++[]),.row _ _ p (o+1) m (c - 1) u mm cs2 (txD l) G ho ?_ (by simp) ⟨by omega,by omega⟩ mF R5 .nil,id,fun b hb=>hb⟩;simp only[List.length_singleton,Nat.mul_one]at PD ⊢;omega
theorem J3 {rb:Nat} {A:List Pl.Bl} {kind name:ByteArray} {L:List Pl.Ln} {pl g q:Nat} {ca cb:List Value} {l1:Option Addr} {lq:Nat} {cl:List Value} {FA FL FB:List Nat} {W W':World} {x:Pl.Ln} {ta:Option Addr} {tc pi g' q':Nat} {FW:List Nat} {N:Nat}
  (hca:ca.length=pl*3) (hA:Rep W false (bf pl ak) FA ((A.take pl).flatMap blD) ca) (hL:Rep W false (bf L.length aA) FL (L.flatMap lnD) cl) (hB:Rep W false (bf (A.length - pl) ak) FB ((A.drop pl).flatMap blD) cb)
  (jl:(FA++(FL++FB)).Nodup) (bR:∀ b∈FA++(FL++FB),rb+1≤b∧b≠g∧(Value.slice l1 L.length lq).ownBlock≠some b) (hpi:pi≤L.length)
  (hw:Rep W false bB FW [.row x.ws.length (txD x.ws)] [.slice ta x.ws.length tc]) (MI:FW.Nodup) (hwN:∀ b∈FW,N≤b) (hN:∀ b∈FA++(FL++FB),b<N) (hgN:g<N) (Qr:∀ b,(Value.slice l1 L.length lq).ownBlock=some b→b<N) (hrN:rb<N)
  (IJ:W'.ownsRow (rb+1) 41 3 (.slice (some ⟨g,0,none⟩) (A.length+1) q) (A.length+1) (ca++[.string kind,.string name,.slice (some ⟨g',0,none⟩) (L.length+1) q']++cb))
  (hl':W'.ownsRow (rb+1) 46 2 (.slice (some ⟨g',0,none⟩) (L.length+1) q') (L.length+1) (cl.take (pi*2)++[.string x.key,.slice ta x.ws.length tc]++cl.drop (pi*2)))
  (hf:Frm (fun b=>b=g∨(Value.slice l1 L.length lq).ownBlock=some b) W W') (x9:l1=some ⟨g',0,none⟩∨W.heap.size≤g'):
  OpM rb A ⟨kind,name,L.take pi++x::L.drop pi⟩ pl g q W':=by
 have hk:∀ b∈FA++(FL++FB),¬ (b=g∨(Value.slice l1 L.length lq).ownBlock=some b):=fun b hb e=>by
  rcases e with e|e
  ·exact(bR b hb).2.1 e
  ·exact(bR b hb).2.2 e
 have hkw:∀ b∈FW,¬ (b=g∨(Value.slice l1 L.length lq).ownBlock=some b):=fun b hb e=>by
  have:=hwN b hb;rcases e with e|e
  ·omega
  ·have:=Qr b e;omega
 have Mo:∀ b∈FA++(FL++FB),b<W.heap.size:=fun b hb=>by
  rcases List.mem_append.1 hb with e|e
  ·exact hA.lt b e
  ·rcases List.mem_append.1 e with e|e
   ·exact hL.lt b e
   ·exact hB.lt b e
 have hgA:∀ b∈FA++(FL++FB),b≠g':=fun b hb e=>by
  subst e;rcases x9 with e|e
  ·exact(bR b hb).2.2 (by rw[e];rfl)
  ·have:=Mo b hb;omega
 have hgW:∀ b∈FW,b≠g':=fun b hb e=>by
  subst e;rcases x9 with e|e
  ·have h1:=Qr b (by rw[e];rfl);have h2:=hwN b hb;omega
  ·have:=hw.lt b hb;omega
 have hA':=hA.frm hf fun b hb=>hk b (by simp[hb]);have hB':=hB.frm hf fun b hb=>hk b (by simp[hb]);have hL':=hL.frm hf fun b hb=>hk b (by simp[hb]);have hw':=hw.frm hf hkw;obtain⟨F1,F2,rfl,r1,r2⟩:=rP lnD aA (fun _=>rfl) hL' pi hpi;have sg:(L.take pi++x::L.drop pi).length=L.length+1:=by
  rw[List.length_append,List.length_cons,List.length_take,List.length_drop];omega
 have hb:=eF x.key hw';have bs:=r1.app (hb.app r2);have EA:bf (L.length+1) aA=bf pi aA++(aA++bf (L.length - pi) aA):=by
  rw[← bW,← gn];congr 1;omega
 have Ls:∀ b,b∈FA++((F1++(FW++[]++F2))++FB)→b∈FA++(F1++F2++FB)∨b∈FW:=fun b hb=>by
  simp only[List.mem_append,List.append_nil]at hb ⊢;rcases hb with h|(h|h|h)|h
  ·exact .inl (.inl h)
  ·exact .inl (.inr (.inl (.inl h)))
  ·exact .inr h
  ·exact .inl (.inr (.inl (.inr h)))
  ·exact .inl (.inr (.inr h))
 refine⟨ca,cb,some ⟨g',0,none⟩,q',_,FA,F1++(FW++[]++F2),FB,by rw[sg];exact IJ,hca,by rw[sg];exact hl',hA', ?_,hB', ?_,fun b hb=> ?_⟩
 ·simp only[sg];rw[EA,List.flatMap_append,List.flatMap_cons,List.append_assoc (List.take (pi*2) cl)];exact bs
 ·have hd:∀ a∈FW,∀ b∈FA++(F1++F2++FB),a≠b:=fun a ha b hb e=>by
   have:=hwN a ha;have:=hN b hb;omega
  simp only[List.append_nil,List.nodup_append,List.mem_append]at jl hd ⊢;obtain⟨n1,⟨⟨n2,n3,n4⟩,n5,n6⟩,n7⟩:=jl;refine⟨n1,⟨⟨n2,⟨MI,n3,fun a ha b hb=>hd a ha b (.inr (.inl (.inr hb)))⟩,fun a ha b hb=> ?_⟩,n5,fun a ha b hb=> ?_⟩,fun a ha b hb=> ?_⟩
  ·rcases hb with h|h
   ·exact fun e=>hd b h a (.inr (.inl (.inl ha))) e.symm
   ·exact n4 a ha b h
  ·rcases ha with h|h|h
   ·exact n6 a (.inl h) b hb
   ·exact hd a h b (.inr (.inr hb))
   ·exact n6 a (.inr h) b hb
  ·rcases hb with(h|h|h)|h
   ·exact n7 a ha b (.inl (.inl h))
   ·exact fun e=>hd b h a (.inl ha) e.symm
   ·exact n7 a ha b (.inl (.inr h))
   ·exact n7 a ha b (.inr h)
 ·rcases Ls b hb with h|h
  ·exact⟨(bR b h).1,(bR b h).2.1,fun e=>hgA b h (by injection e with e;exact e.symm)⟩
  ·have h1:=hwN b h;exact⟨by omega,by omega,fun e=>hgW b h (by injection e with e;exact e.symm)⟩
set_option maxHeartbeats 40000000
theorem CU (rb:Nat) (at_:Int) (mv lv cw bv ov:Value) (w:World) (eE:al w rb 111 [mv,lv,.int .i64 at_,cw,.bool true,bv,ov]) (hcw:∃ a n c,cw=.slice a n c):
  Calls Tryz.prog 77 #[.pointer (some ⟨rb,0,none⟩)] w fun e w'=>e=.returned (.iface 76 (.agg #[.int .i64 at_,.int .i64 1]))∧w=w':=by
 obtain⟨a,n,c,rfl⟩:=hcw;have c3:=eE.get 3 _ rfl;have c4:=eE.get 4 _ rfl;have cl:=eE.own.lt;have yk:=uh (sO rb at_ 1 w (eE.get 2 _ rfl) cl);clear eE;go_enter Tryz.func77,Tryz.ntmps77
 go_wp2_with (go_at_call 99;refine yk.out.mono ?_;rintro e w' ⟨rfl,rfl⟩)
 go_ret;exact⟨rfl,rfl⟩
theorem Kw (rb:Nat) (at_:Int) (mv lv cw bv ov:Value) (w:World) (eE:al w rb 111 [mv,lv,.int .i64 at_,cw,.bool true,bv,ov]):
  Calls Tryz.prog 79 #[.pointer (some ⟨rb,0,none⟩)] w fun e w'=>e=.returned (.iface 76 (.agg #[.int .i64 at_,.int .i64 1]))∧w=w':=by
 have c4:=eE.get 4 _ rfl;have cl:=eE.own.lt;have yk:=uh (sO rb at_ 1 w (eE.get 2 _ rfl) cl);clear eE;go_enter Tryz.func79,Tryz.ntmps79
 go_wp2_with (go_at_call 99;refine yk.out.mono ?_;rintro e w' ⟨rfl,rfl⟩)
 go_ret;exact⟨rfl,rfl⟩
structure RdC (rb mb:Nat) (la:Option Addr) (lc:Nat) (ls:List ByteArray) (vt vb vs:Value) (w0:World):Prop where
 lines:Raw w0 bB [.row ls.length (txD ls)] [.slice la ls.length lc]
 mp:w0.heap[mb]? =some (.map #[⟨.string {data:=#[116,101,97,109]},.agg #[vt],0⟩,⟨.string {data:=#[98,101,114,116,104]},.agg #[vb],1⟩,⟨.string {data:=#[115,101,114,118,105,99,101]},.agg #[vs],2⟩] 3)
 kinds:∀ kind,∃ ra rc,il kind vt vb vs=.slice ra (Pl.ai kind).length rc∧Raw w0 [.row 96 aF] [cQ (Pl.ai kind)] [.slice ra (Pl.ai kind).length rc]
 lo:w0.heap.size≤rb
 len:ls.length≤400
 sz:∀ x∈ls,x.size≤1048576
theorem RdC.map {rb mb:Nat} {la:Option Addr} {lc:Nat} {ls:List ByteArray} {vt vb vs:Value} {w0 w:World} (h:RdC rb mb la lc ls vt vb vs w0) (hb:Bel w0 w):w.heap[mb]? =some (.map #[⟨.string {data:=#[116,101,97,109]},.agg #[vt],0⟩,⟨.string {data:=#[98,101,114,116,104]},.agg #[vb],1⟩,⟨.string {data:=#[115,101,114,118,105,99,101]},.agg #[vs],2⟩] 3):=
 (hb.block mb (dN h.mp)).trans h.mp
def atB (A:List Pl.Bl) (cur:Pl.Bl):Nat:=cv Pl.ahead A ⟨cur.kind,cur.name,[]⟩
def SO (rb mb:Nat) (la:Option Addr) (lc:Nat) (ls:List ByteArray) (k:Nat) (A:List Pl.Bl) (cur:Pl.Bl) (W:World):Prop:=
 ∃ cw cb g q,al W rb 111 [.map (some mb),.slice la ls.length lc,.int .i64 (k:Nat),cw,.bool cb,.slice (some ⟨g,0,none⟩) (A.length+1) q,.int .i64 (atB A cur:Nat)]∧OpM rb A cur (atB A cur) g q W
structure OpP (k:Nat) (A:List Pl.Bl) (cur:Pl.Bl):Prop where
 pw:A.Pairwise fun a b=>Pl.ahead a b=true
 lt:A.length<60
 new:¬ (atB A cur<A.length∧dm (A.getD (atB A cur) Pl.aN) ⟨cur.kind,cur.name,[]⟩=0)
 lw:cur.lines.Pairwise fun a c=>Pl.aL cur.kind a c=true
 cnt:∀ key,Pl.aI cur.lines key≤10
 ln:cur.lines.length≤k
theorem mV (x:ByteArray):∀ y∈Pl.aP x,y.size≤maxLen:=by
 unfold Pl.aP;cases hc:Pl.bE x.data.toList 0 with
 |none=>intro y hy;cases hy
 |some ws=>
  intro y hy;have:=Pl.lS _ _ _ zE ws hc y hy;unfold maxLen;omega
theorem Kj {rb mb:Nat} {la:Option Addr} {lc:Nat} {ls:List ByteArray} {vt vb vs:Value} {w0:World} (C:RdC rb mb la lc ls vt vb vs w0) (x:ByteArray) (k:Nat) (a:Option Addr) (c:Nat) (F:List Nat) (A:List Pl.Bl) (bv:Value) (op:Int) (cur:Pl.Bl) (w:World)
  (eE:al w rb 111 [.map (some mb),.slice la ls.length lc,.int .i64 (k:Nat),.slice a (Pl.aP x).length c,.bool (Pl.bX x),bv,.int .i64 op]) (hw:Rep w false bB F [.row (Pl.aP x).length (txD (Pl.aP x))] [.slice a (Pl.aP x).length c]) (du:Pl.bX x=true∨(Pl.aP x).length≠0)
  (eN:ClM rb A bv w) (hb:Bel w0 w) (hP:A.Pairwise fun a b=>Pl.ahead a b=true) (BT:A.length≤60):
  Calls Tryz.prog 77 #[.pointer (some ⟨rb,0,none⟩)] w fun e w'=>
   (Pl.dR ⟨A,cur,false⟩ x≠0∧e=.returned (.iface 76 (.agg #[.int .i64 (k:Nat),.int .i64 (Pl.dR ⟨A,cur,false⟩ x:Nat)]))∧Bel w w')∨
   (Pl.dR ⟨A,cur,false⟩ x=0∧e=.returned .nilIface∧∃ cur',Pl.jh ⟨A,cur,false⟩ x=⟨A,cur',true⟩∧OpP k A cur'∧SO rb mb la lc ls k A cur' w'∧Bel w0 w'):=by
 cases kV:Pl.bX x with
 |true=>
  rw[kV]at eE;refine(CU rb k _ _ _ bv _ w eE ⟨_,_,_,rfl⟩).mono ?_;rintro e w' ⟨rfl,rfl⟩;rw[vq kV];exact Or.inl ⟨by decide,rfl,zR⟩
 |false=>
  rw[kV]at eE;have MI:(Pl.aP x).length≠0:=by
   rcases du with h|h
   ·rw[kV]at h;cases h
   ·exact h
  obtain⟨FC,Rs⟩:=sW kV ⟨A,cur,false⟩;have e1:Pl.eX ⟨A,cur,false⟩ (Pl.aP x)=Pl.kD A (Pl.aP x):=by
   unfold Pl.eX Pl.gN;rw[if_neg MI];rfl
  have e2:Pl.eH ⟨A,cur,false⟩ (Pl.aP x)=⟨A,Pl.pc A (Pl.aP x),true⟩:=by
   unfold Pl.eH Pl.gN;rw[if_neg MI];rfl
  rw[FC,Rs,e1,e2];have zH:=mV x;generalize Pl.aP x=ws at eE hw zH;obtain⟨cs,FB,ff,fc,jl,bR,hg⟩:=eN;obtain⟨p1,q,rfl⟩:=GC ff;obtain⟨t,ht⟩:∃ t,t=(⟨ws.getD 0 Pl.aJ,ws.getD 1 Pl.aJ,[]⟩:Pl.Bl):=⟨_,rfl⟩
  obtain⟨ag,oK⟩:∃ ag,ag=(decide (cv Pl.ahead A ⟨ws.getD 0 Pl.aJ,ws.getD 1 Pl.aJ,[]⟩<A.length)&&decide (dm (A.getD (cv Pl.ahead A ⟨ws.getD 0 Pl.aJ,ws.getD 1 Pl.aJ,[]⟩) Pl.aN) ⟨ws.getD 0 Pl.aJ,ws.getD 1 Pl.aJ,[]⟩=0)):=⟨_,rfl⟩
  have IA:∀ kind,∃ ra rn rc,il kind vt vb vs=.slice ra rn rc:=fun kind=>by
   obtain⟨ra,rc,e,_⟩:=C.kinds kind;exact⟨ra,_,rc,e⟩
  have hc:=JZ rb mb _ k op a c ws A p1 q cs FB vt vb vs w eE hw.raw zH ff fc BT (C.map hb) IA (cv Pl.ahead A ⟨ws.getD 0 Pl.aJ,ws.getD 1 Pl.aJ,[]⟩) (rS _ _ _) (nU rT Pl.aN A _) (sH rT Pl.aN hP _) ag oK;have he:=Cx hP BT ws ag oK;rw[he]at hc;refine hc.mono ?_;rintro e w' (⟨h1,h2,h3⟩|⟨h1,h2,g',q',h3,h4,h5,h6⟩)
  ·exact Or.inl ⟨h1,h2,h3⟩
  ·have Jh:Pl.pc A ws=⟨ws.getD 0 Pl.aJ,ws.getD 1 Pl.aJ,[]⟩:=by unfold Pl.pc;rw[if_pos h1]
   have Ms:ag=false:=by
    rw[← he]at h1;cases hq:ag with
    |false=>rfl
    |true=>
     exfalso;unfold bgC at h1;rw[hq]at h1;simp only[if_true]at h1;repeat' split at h1
     all_goals cases h1
   have bd:A.length<60:=by
    rw[← he]at h1;rcases Nat.lt_or_ge A.length 60 with q|q
    ·exact q
    ·exfalso;have e60:A.length=60:=by omega
     unfold bgC at h1;rw[if_pos e60]at h1;repeat' split at h1
     all_goals cases h1
   refine Or.inr ⟨h1,h2,⟨ws.getD 0 Pl.aJ,ws.getD 1 Pl.aJ,[]⟩,by rw[Jh],⟨hP,bd, ?_,List.Pairwise.nil,fun _=>zN,zN⟩,⟨_,_,g',q',h3,DW fc jl bR hg (rS _ _ _) h4 h5 h6⟩, ?_⟩
   ·intro hq;rw[Ms]at oK;have:(decide (cv Pl.ahead A ⟨ws.getD 0 Pl.aJ,ws.getD 1 Pl.aJ,[]⟩<A.length)&&decide (dm (A.getD (cv Pl.ahead A ⟨ws.getD 0 Pl.aJ,ws.getD 1 Pl.aJ,[]⟩) Pl.aN) ⟨ws.getD 0 Pl.aJ,ws.getD 1 Pl.aJ,[]⟩=0))=true:=by
     rw[Bool.and_eq_true,decide_eq_true_eq,decide_eq_true_eq];exact hq
    rw[this]at oK;cases oK
   ·refine h5.below (fun b hq=> ?_) hb;rcases hq with rfl|hq
    ·exact C.lo
    ·have:=(cC ff hq).1;have:=C.lo;omega
theorem QN {rb mb:Nat} {la:Option Addr} {lc:Nat} {ls:List ByteArray} {vt vb vs:Value} {w0:World} (C:RdC rb mb la lc ls vt vb vs w0) (x:ByteArray) (k0 k:Nat) (a:Option Addr) (c:Nat) (F:List Nat) (A:List Pl.Bl) (g q:Nat) (cur:Pl.Bl) (wp w:World)
  (eE:al w rb 111 [.map (some mb),.slice la ls.length lc,.int .i64 (k:Nat),.slice a (Pl.aP x).length c,.bool (Pl.bX x),.slice (some ⟨g,0,none⟩) (A.length+1) q,.int .i64 (atB A cur:Nat)]) (hw:Rep w false bB F [.row (Pl.aP x).length (txD (Pl.aP x))] [.slice a (Pl.aP x).length c]) (MI:F.Nodup) (hF:∀ b∈F,wp.heap.size≤b) (du:Pl.bX x=true∨(Pl.aP x).length≠0)
  (dt:(decide ((Pl.aP x).length=1)&&(((Pl.aP x).getD 0 Pl.aJ).toList==[101,110,100]))=false) (iH:OpM rb A cur (atB A cur) g q wp) (fz:Frm (fun b=>b=rb) wp w) (hb:Bel w0 w) (hP:OpP k0 A cur) (hk:k0<k) (hk4:k≤400):
  Calls Tryz.prog 79 #[.pointer (some ⟨rb,0,none⟩)] w fun e w'=>
   (Pl.dR ⟨A,cur,true⟩ x≠0∧e=.returned (.iface 76 (.agg #[.int .i64 (k:Nat),.int .i64 (Pl.dR ⟨A,cur,true⟩ x:Nat)]))∧Bel w w')∨
   (Pl.dR ⟨A,cur,true⟩ x=0∧e=.returned .nilIface∧∃ cur',Pl.jh ⟨A,cur,true⟩ x=⟨A,cur',true⟩∧OpP k A cur'∧SO rb mb la lc ls k A cur' w'∧Bel w0 w'):=by
 cases kV:Pl.bX x with
 |true=>
  rw[kV]at eE;refine(Kw rb k _ _ _ _ _ w eE).mono ?_;rintro e w' ⟨rfl,rfl⟩;rw[vq kV];exact Or.inl ⟨by decide,rfl,zR⟩
 |false=>
  rw[kV]at eE;have qe:(Pl.aP x).length≠0:=by
   rcases du with h|h
   ·rw[kV]at h;cases h
   ·exact h
  obtain⟨FC,Rs⟩:=sW kV ⟨A,cur,true⟩;have Qb:Pl.gN ⟨A,cur,true⟩ (Pl.aP x)=false:=by unfold Pl.gN;rw[dt];rfl
  have e1:Pl.eX ⟨A,cur,true⟩ (Pl.aP x)=Pl.gL cur (Pl.aP x):=by
   unfold Pl.eX;rw[if_neg qe,Qb];rfl
  have e2:Pl.eH ⟨A,cur,true⟩ (Pl.aP x)=⟨A,Pl.lz cur (Pl.aP x),true⟩:=by
   unfold Pl.eH;rw[if_neg qe,Qb];rfl
  rw[FC,Rs,e1,e2];have zH:=mV x;generalize Pl.aP x=ws at eE hw zH qe;obtain⟨kind,name,L⟩:=cur;obtain⟨ca,cb,l1,lq,cl,FA,FL,FB,o1,o2,o3,o4,o5,o6,o7,o8⟩:=iH;simp only at o1 o3 o5 o8;have Mo:∀ b∈FA++(FL++FB),b<wp.heap.size:=fun b hb=>by
   rcases List.mem_append.1 hb with e|e
   ·exact o4.lt b e
   ·rcases List.mem_append.1 e with e|e
    ·exact o5.lt b e
    ·exact o6.lt b e
  have tP:=cC o1 (g:=g) rfl;have hgN:g<wp.heap.size:=by
   obtain⟨_,cu,h⟩:=tP;exact dN h
  have Qr:∀ b,(Value.slice l1 L.length lq).ownBlock=some b→b<wp.heap.size:=fun b e=>by
   obtain⟨_,cu,h⟩:=cC o3 e;exact dN h
  have ko:∀ b,(Value.slice l1 L.length lq).ownBlock=some b→rb+1≤b:=fun b e=>(cC o3 e).1;have o1':=bK o1 fz fun b e q=>by
   have:=(cC o1 e).1;omega
  have o3':=bK o3 fz fun b e q=>by
   have:=(cC o3 e).1;omega
  have o4':=o4.frm fz fun b e q=>by
   have:=(o8 b (by simp[e])).1;omega
  have o5':=o5.frm fz fun b e q=>by
   have:=(o8 b (by simp[e])).1;omega
  have o6':=o6.frm fz fun b e q=>by
   have:=(o8 b (by simp[e])).1;omega
  obtain⟨m,hm⟩:∃ m,ws.length=m+1:=⟨ws.length - 1,by omega⟩
  rcases dS hw.raw with⟨e0,_⟩|⟨p,o,c',hv,_,_,_⟩
  ·omega
  injection hv with v1 _ v3
  subst v1;subst v3;rw[hm]at eE;obtain⟨F',Ll,Mp,hff⟩:=Cd (by rw[hm]at hw ⊢;exact hw) hm;obtain⟨ra,rc,IA,sj⟩:=C.kinds kind;have tW:∀ W,Bel w W→(Instr.lookup 60 (.map (some mb)) (.string kind) false).run Tryz.prog W=.ok (.agg #[.slice ra (Pl.ai kind).length rc]) W:=fun W hW=>by
   rw[← IA];have ns:=C.map hb;exact AN ((hW.block mb (dN ns)).trans ns) kind
  obtain⟨ag,oK⟩:∃ ag,ag=(decide (cv (Pl.aL kind) L (Pl.aY ws)<L.length)&&decide (dp (Pl.ai kind) (L.getD (cv (Pl.aL kind) L (Pl.aY ws)) Pl.aK) (Pl.aY ws)=0)):=⟨_,rfl⟩
  have hLk:L.length≤k0:=hP.ln;have hlt60:=hP.lt;have hc:=QH rb mb _ k p o m c ws g (A.length+1) q (atB A ⟨kind,name,L⟩) ca cb kind name l1 L.length lq L cl FL (Pl.ai kind) ra rc w0 w eE hm (by rw[hm]at hw;exact hw.raw) zH o1' o2 (by have:atB A ⟨kind,name,L⟩≤A.length:=rS _ _ _;omega) (by omega) o3' rfl o5' (by omega) hb tW sj (Pl.fX kind) (Pl.pC kind) (cv (Pl.aL kind) L (Pl.aY ws)) (rS _ _ _) (nU (rZ kind) Pl.aK L _) (sH (rZ kind) Pl.aK hP.lw _) ag oK _ _ rfl rfl Ll.raw;have he:adC (Pl.ai kind) (Pl.aI L (Pl.aY ws).key) (Pl.aY ws) ag=Pl.gL ⟨kind,name,L⟩ ws:=add_eq (b:=⟨kind,name,L⟩) hP.lw hP.cnt ws ag oK;rw[he]at hc;refine hc.mono ?_;rintro e w' (⟨h1,h2,h3⟩|⟨h1,h2,g',q',h3,h4,h5,h6⟩)
  ·exact Or.inl ⟨h1,h2,h3⟩
  ·have hiB:Pl.lz ⟨kind,name,L⟩ ws=⟨kind,name,Pl.ck kind L (Pl.aY ws)⟩:=by unfold Pl.lz;rw[if_pos h1]
   have K8:Pl.ck kind L (Pl.aY ws)=L.take (cv (Pl.aL kind) L (Pl.aY ws))++Pl.aY ws::L.drop (cv (Pl.aL kind) L (Pl.aY ws)):=l9 _ _ _;have qS:=h1;rw[← he]at qS;have Ms:ag=false:=by
    cases hq:ag with
    |false=>rfl
    |true=>
     exfalso;unfold adC at qS;rw[hq]at qS;simp only[Bool.true_or,if_true]at qS;repeat' split at qS
     all_goals cases qS
   have Hp:Pl.aI L (Pl.aY ws).key≠10:=fun q=>by
    unfold adC at qS;rw[if_pos q]at qS;repeat' split at qS
    all_goals cases qS
   have qK:(Pl.aY ws).ws.length=m:=by
    show (ws.drop 1).length=m;rw[List.length_drop];omega
   have qV:¬ (cv (Pl.aL kind) L (Pl.aY ws)<L.length∧dp (Pl.ai kind) (L.getD (cv (Pl.aL kind) L (Pl.aY ws)) Pl.aK) (Pl.aY ws)=0):=fun hq=>by
    rw[Ms]at oK;have:(decide (cv (Pl.aL kind) L (Pl.aY ws)<L.length)&&decide (dp (Pl.ai kind) (L.getD (cv (Pl.aL kind) L (Pl.aY ws)) Pl.aK) (Pl.aY ws)=0))=true:=by
     rw[Bool.and_eq_true,decide_eq_true_eq,decide_eq_true_eq];exact hq
    rw[this]at oK;cases oK
   refine Or.inr ⟨h1,h2,⟨kind,name,Pl.ck kind L (Pl.aY ws)⟩,by rw[hiB],⟨hP.pw,hP.lt,hP.new, ?_, ?_, ?_⟩,⟨_,_,g,q,eE.frm h5 ?_, ?_⟩, ?_⟩
   ·show List.Pairwise _ (Pl.ck kind L (Pl.aY ws));rw[K8];exact pl_pair (rZ kind) Pl.aK hP.lw _ qV
   ·intro key;show Pl.aI (Pl.ck kind L (Pl.aY ws)) key≤10;rw[G7];have JJ:=hP.cnt key;have SA:Pl.aI L key≤10:=JJ;cases hq:Pl.dD (Pl.aY ws).key key with
    |false=>simpa using SA
    |true=>
     rw[jA hq]at Hp;simp only[if_true];omega
   ·show (Pl.ck kind L (Pl.aY ws)).length≤k;rw[K8,List.length_append,List.length_cons,List.length_take,List.length_drop];omega
   ·intro hq;rcases hq with hq|hq
    ·have:=tP.1;omega
    ·have:=ko _ hq;omega
   ·rw[K8];rw[← qK]at Ll h4;have hrN:rb<wp.heap.size:=by
     have:=tP.1;omega
    exact J3 (N:=wp.heap.size) (pl:=atB A ⟨kind,name,L⟩) o2 o4' o5' o6' o7 o8 (rS _ _ _) Ll (Mp MI) (fun b hb=>hF b (hff b hb)) Mo hgN Qr hrN h3 h4 h5 h6
   ·refine h5.below (fun b hq=> ?_) hb;have:=C.lo;rcases hq with rfl|hq
    ·have:=tP.1;omega
    ·have:=ko _ hq;omega
set_option maxRecDepth 8000
theorem yQ {st:Pl.PS} {ls:List ByteArray} {k j:Nat} (EO:k≤j) (hj:j<ls.length) (eY:Pl.blank ls k j):Pl.parseFrom st (ls.drop k) k=if Pl.dR st (ls.getD j Pl.aJ)=0 then Pl.parseFrom (Pl.jh st (ls.getD j Pl.aJ)) (ls.drop (j+1)) (j+1) else ([],j+1,Pl.dR st (ls.getD j Pl.aJ)):=by
 have e:k+(j - k)=j:=by omega
 have h:=pR st ls (j - k) k (by omega) (by rw[e];exact eY);rw[e]at h;rw[h];exact GQ st ls j hj
theorem CN {st:Pl.PS} {ls:List ByteArray} {k:Nat} (hk:k≤ls.length) (eY:Pl.blank ls k ls.length):Pl.parseFrom st (ls.drop k) k=if st.opn then ([],ls.length+1,8) else (st.acc,0,0):=by
 have e:k+(ls.length - k)=ls.length:=by omega
 have h:=pR st ls (ls.length - k) k (by omega) (by rw[e];exact eY);rw[e]at h;rw[h,List.drop_length];rfl
def NC (rb:Nat) (mv:Value) (la:Option Addr) (lc:Nat) (ls:List ByteArray) (k:Nat) (bv:Value) (op:Int) (w:World) (e:Ending) (w':World):Prop:=
 ∃ j,k≤j∧j<ls.length∧Pl.blank ls k j∧e=.returned (.bool true)∧∃ a c F,al w' rb 111 [mv,.slice la ls.length lc,.int .i64 ((j+1:Nat):Int),.slice a (Pl.aP (ls.getD j Pl.aJ)).length c,.bool (Pl.bX (ls.getD j Pl.aJ)),bv,.int .i64 op]∧Rep w' false bB F [.row (Pl.aP (ls.getD j Pl.aJ)).length (txD (Pl.aP (ls.getD j Pl.aJ)))] [.slice a (Pl.aP (ls.getD j Pl.aJ)).length c]∧F.Nodup∧(∀ b∈F,w.heap.size≤b)∧(Pl.bX (ls.getD j Pl.aJ)=true∨(Pl.aP (ls.getD j Pl.aJ)).length≠0)∧Marks (fun b=>b=rb) w w'
theorem vC {rb:Nat} {mv:Value} {la:Option Addr} {lc:Nat} {ls:List ByteArray} {k:Nat} {bv:Value} {op:Int} {w:World} {e:Ending} {w':World} (h:D2 rb mv la lc ls k bv op w e w') (hn:¬ Pl.blank ls k ls.length):NC rb mv la lc ls k bv op w e w':=by
 rcases h with h|⟨h,_⟩
 ·exact h
 ·exact absurd h hn
theorem zd {rb:Nat} {mv:Value} {la:Option Addr} {lc:Nat} {ls:List ByteArray} {k:Nat} {bv:Value} {op:Int} {w:World} {e:Ending} {w':World} (h:D2 rb mv la lc ls k bv op w e w') (hn:Pl.blank ls k ls.length):e=.returned (.bool false)∧(∃ cw cb,al w' rb 111 [mv,.slice la ls.length lc,.int .i64 (ls.length:Nat),cw,.bool cb,bv,.int .i64 op])∧Marks (fun b=>b=rb) w w':=by
 rcases h with⟨j,h1,h2,_,_,a,c,F,_,_,_,_,h3,_⟩|⟨_,h⟩
 ·exfalso;have h:=hn j h1 h2;unfold Pl.bX Pl.aP at h3;rw[h]at h3;rcases h3 with h3|h3
  ·cases h3
  ·exact h3 rfl
 ·exact h
theorem Below.Ns {a b c:World} (h:Bel b c) (k:Bel a b):Bel a c:=
 (Frm.aG (S:=fun _=>False) h).below (fun _ h=>h.elim) k
theorem CR {A:List Pl.Bl} {cur:Pl.Bl} {x:ByteArray} (h:(decide ((Pl.aP x).length=1)&&(((Pl.aP x).getD 0 Pl.aJ).toList==[101,110,100]))=true):Pl.dR ⟨A,cur,true⟩ x=0∧Pl.jh ⟨A,cur,true⟩ x=⟨Pl.dO A cur,cur,false⟩:=by
 have hl:(Pl.aP x).length=1:=by
  rw[Bool.and_eq_true,decide_eq_true_eq]at h;exact h.1
 have hb:Pl.bX x=false:=by
  unfold Pl.aP at hl;unfold Pl.bX;cases hc:Pl.bE x.data.toList 0 with
  |none=>rw[hc]at hl;cases hl
  |some ws=>rfl
 obtain⟨h1,h2⟩:=sW hb ⟨A,cur,true⟩;have Qb:Pl.gN ⟨A,cur,true⟩ (Pl.aP x)=true:=by unfold Pl.gN;rw[h];rfl
 have h0:(Pl.aP x).length≠0:=by omega
 rw[h1,h2];unfold Pl.eX Pl.eH;rw[if_neg h0,if_neg h0,Qb];exact⟨rfl,rfl⟩
def SC (rb mb:Nat) (la:Option Addr) (lc:Nat) (ls:List ByteArray) (k:Nat) (A:List Pl.Bl) (W:World):Prop:=
 ∃ cw cb bv op,al W rb 111 [.map (some mb),.slice la ls.length lc,.int .i64 (k:Nat),cw,.bool cb,bv,.int .i64 op]∧ClM rb A bv W
def IV (rb mb:Nat) (la:Option Addr) (lc:Nat) (ls:List ByteArray) (o:List Pl.Bl×Nat×Nat) (w0:World) (e:Ending) (w':World):Prop:=
 ((o.1=[]∧o.2.2≠0∧e=.returned (.iface 76 (.agg #[.int .i64 (o.2.1:Nat),.int .i64 (o.2.2:Nat)])))∨(o.2.1=0∧o.2.2=0∧e=.returned .nilIface∧o.1.length≤60∧∃ k,SC rb mb la lc ls k o.1 w'))∧Bel w0 w'
theorem pe {rb mb:Nat} {la:Option Addr} {lc:Nat} {ls:List ByteArray} {o:List Pl.Bl×Nat×Nat} {w0 w':World} {i c:Nat} (ho:o=([],i,c)) (hc:c≠0) (hb:Bel w0 w'):IV rb mb la lc ls o w0 (.returned (.iface 76 (.agg #[.int .i64 (i:Nat),.int .i64 (c:Nat)]))) w':=by
 subst ho;exact⟨Or.inl ⟨rfl,hc,rfl⟩,hb⟩
theorem Nw {rb mb:Nat} {la:Option Addr} {lc:Nat} {ls:List ByteArray} {vt vb vs:Value} {w0:World} (C:RdC rb mb la lc ls vt vb vs w0) (o:List Pl.Bl×Nat×Nat) (ho:Pl.parseFrom Pl.C0 ls 0=o) (w:World) (hs:SC rb mb la lc ls 0 [] w) (hb:Bel w0 w):
  Calls Tryz.prog 55 #[.pointer (some ⟨rb,0,none⟩)] w (IV rb mb la lc ls o w0):=by
 have HC:Hid (RdC rb mb la lc ls vt vb vs w0):=C;have HO:=uh ho;have HS:=uh hs;have HB:=uh hb;clear C ho hs hb;go_enter Tryz.func55,Tryz.ntmps55
 go_wp2;go_step3
 go_wp2;go_step3
 go_wp2;go_loopg [] ls.length (fun gk wr=>∃ (k:Nat) (A:List Pl.Bl) (cur:Pl.Bl),k+gk=ls.length∧Hid (Pl.parseFrom ⟨A,cur,false⟩ (ls.drop k) k=o)∧Hid ((A.Pairwise fun a b=>Pl.ahead a b=true)∧A.length≤60)∧Hid (SC rb mb la lc ls k A wr)∧Hid (Bel w0 wr))
 case atStart=>exact⟨0,[],Pl.C0.cur,by omega,HO,⟨List.Pairwise.nil,zN⟩,HS,HB⟩
 case round=>
  obtain⟨k,A,cur,Ry,FR,Qg,Jl,mQ⟩:=hrel;obtain⟨cw,cb,bv,op,eE,eN⟩:=Jl.out;have HN:=uh (IZ rb (.map (some mb)) la lc ls k cw bv cb op w0 wr eE HC.out.lines mQ.out HC.out.lo (by omega) HC.out.sz (by have:=HC.out.len;omega));have nK:=uh eN;clear eE eN;by_cases hq:Pl.blank ls k ls.length
  ·have HQ:=uh hq;have NP:Hid (k≤ls.length):=by show _≤_;omega
   clear hq Ry;go_wp2_with (go_at_call 76;refine HN.out.mono ?_;intro e w1 hx;obtain⟨rfl,ed,fV⟩:=zd hx HQ.out;have mO:=uh ed;have fL:=uh fV;clear hx ed fV)
   try rw[Exit.noGoto_ret]
   go_ret;have he:o=(A,0,0):=FR.out.symm.trans ((CN NP.out HQ.out).trans rfl);obtain⟨cw',cb',Rg⟩:=mO.out;rw[he];exact⟨Or.inr ⟨rfl,rfl,rfl,Qg.out.2,ls.length,_,_,_,_,Rg,nK.out.frm (fL.out.frm fun _ h=>h)⟩,fL.out.below (fun b hb=>by rw[hb];exact HC.out.lo) mQ.out⟩
  ·have HQ:=uh hq;have HKG:=uh Ry;clear hq Ry;go_wp2_with (go_at_call 76;refine HN.out.mono ?_;intro e w1 hx;obtain⟨j,EO,BZ,vX,rfl,a,c,F,eE,Md,jl,qh,du,fz⟩:=vC hx HQ.out;have P7:Hid (k≤j∧j<ls.length):=⟨EO,BZ⟩;have PZ:=uh vX;have jE:=uh eE;have Ix:=uh Md;have I7:=uh du;have qn:=uh fz;clear hx EO BZ vX eE Md jl qh du fz)
   have gE:Hid (Bel w0 w1):=qn.out.below (fun b hb=>by rw[hb];exact HC.out.lo) mQ.out;have ub:=FR.out;rw[yQ P7.out.1 P7.out.2 PZ.out]at ub;have OM:=uh (Kj HC.out (ls.getD j Pl.aJ) (j+1) a c F A bv op cur w1 jE.out Ix.out I7.out (nK.out.frm (qn.out.frm fun _ h=>h)) gE.out Qg.out.1 Qg.out.2);by_cases qz:Pl.dR ⟨A,cur,false⟩ (ls.getD j Pl.aJ)=0
   rotate_left
   ·rw[if_neg qz]at ub;have Hl:=uh ub;have qg:=uh qz;clear ub qz FR HN;go_wp2_with (go_at_call 77;refine OM.out.mono ?_;intro e w2 hx;obtain⟨_,rfl,fV⟩:=hx.resolve_right (fun h=>qg.out h.1);have fL:=uh fV;clear hx fV)
    try rw[Exit.noGoto_ret]
    go_ret;exact pe Hl.out.symm qg.out (Below.Ns fL.out gE.out)
   ·rw[if_pos qz]at ub;have Hl:=uh ub;have qg:=uh qz;clear ub qz FR HN;go_wp2_with (go_at_call 77;refine OM.out.mono ?_;intro e w2 hx;obtain⟨_,rfl,bw,fV,mG,BO,Ft⟩:=hx.resolve_left (fun h=>h.1 qg.out);have fL:=uh fV;have tV:=uh mG;have kr:=uh BO;have B9:=uh Ft;clear hx fV mG BO Ft)
    have Oy:Hid (Pl.parseFrom ⟨A,bw,true⟩ (ls.drop (j+1)) (j+1)=o):=by show _=_;rw[← fL.out];exact Hl.out
    clear Hl OM jE Ix I7 qn nK PZ qg gE mQ Jl fL;go_loopg [] (ls.length - (j+1)) (fun gi wy=>∃ (k2:Nat) (cur:Pl.Bl),Hid (j+1≤k2∧k2+gi=ls.length)∧Hid (Pl.parseFrom ⟨A,cur,true⟩ (ls.drop k2) k2=o)∧Hid (OpP k2 A cur)∧Hid (SO rb mb la lc ls k2 A cur wy)∧Hid (Bel w0 wy))
    case atStart=>exact⟨j+1,bw,⟨zE,by have:=P7.out.2;omega⟩,Oy,tV,kr,B9⟩
    case round=>
     obtain⟨k2,cg,tR,FR,su,P2,mQ⟩:=hrel;obtain⟨Jp,cb2,g2,q2,eE,iH⟩:=P2.out;have HN:=uh (IZ rb (.map (some mb)) la lc ls k2 Jp (.slice (some ⟨g2,0,none⟩) (A.length+1) q2) cb2 (atB A cg:Nat) w0 wr eE HC.out.lines mQ.out HC.out.lo (by have:=tR.out.2;omega) HC.out.sz (by have:=HC.out.len;omega));have Qy:=uh iH;clear eE iH Oy tV kr B9;by_cases hq:Pl.blank ls k2 ls.length
     ·have HQ:=uh hq;clear hq;have he:([],ls.length+1,8)=o:=(FR.out.symm.trans ((CN (by have:=tR.out.2;omega) HQ.out).trans rfl)).symm;have HE:=uh he;have je:Hid (ls.length≤400):=HC.out.len;have zG:(ls.length:Int)≤400:=by have:=je.out;omega
      have hln0:(0:Int)≤(ls.length:Int):=by omega
      clear he;go_wp2_with (go_at_call 76;refine HN.out.mono ?_;intro e w3 hx;obtain⟨rfl,ed,fV⟩:=zd hx HQ.out;have fL:=uh fV;obtain⟨cw3,cb3,ed⟩:=ed;have c2:=ed.get 2 _ rfl;have cl:=ed.own.lt;clear hx ed fV)
      try rw[Exit.noGoto_ret]
      go_ret;exact pe HE.out.symm (by decide) (fL.out.below (fun b hb=>by rw[hb];exact HC.out.lo) mQ.out)
     ·have HQ:=uh hq;clear hq;go_wp2_with (go_at_call 76;refine HN.out.mono ?_;intro e w3 hx;obtain⟨j2,EO,BZ,vX,rfl,a2,c2,F2,eE,Md,jl,qh,du,fz⟩:=vC hx HQ.out;have tH:Hid (k2≤j2∧j2<ls.length):=⟨EO,BZ⟩;have PZ:=uh vX;have jE:=uh eE;have Ix:=uh Md;have I7:=uh du;have RO:=uh jl;have ML:=uh qh;have qn:=uh fz;clear hx EO BZ vX eE Md jl qh du fz)
      have tA:Hid (Bel w0 w3):=qn.out.below (fun b hb=>by rw[hb];exact HC.out.lo) mQ.out;have HFM:Hid (Frm (fun b=>b=rb) wr w3):=qn.out.frm fun _ h=>h;have ub:=FR.out;rw[yQ tH.out.1 tH.out.2 PZ.out]at ub;have JD:=uh (Nj rb (Pl.aP (ls.getD j2 Pl.aJ)) _ w3 (jE.out.get 3 _ rfl) jE.out.own.lt Ix.out.raw);cases hen:(decide ((Pl.aP (ls.getD j2 Pl.aJ)).length=1)&&(((Pl.aP (ls.getD j2 Pl.aJ)).getD 0 Pl.aJ).toList==[101,110,100])) with
      |true=>
       rw[hen]at JD;obtain⟨s1,s2⟩:=CR (A:=A) (cur:=cg) hen;rw[if_pos s1,s2]at ub;have EJ:=uh ub;clear ub hen s1 s2 FR HN;go_wp2_with (go_at_call 78;refine JD.out.mono ?_;rintro e w4 ⟨rfl,rfl⟩)
       go_roundg (ls.length - (j2+1))
       case measure=>
        have h1:=HKG.out;have h2:=P7.out;have h3:=tR.out;have h4:=tH.out;omega
       case rel=>
        have hl:cg.lines.length≤maxLen:=by
         have h1:=su.out.ln;have h2:=tR.out.2;have h3:=HC.out.len;unfold maxLen;omega
        have eN:=Kl (Qy.out.frm HFM.out) (rS _ _ _) hl;have K8:Pl.dO A cg=A.take (atB A cg)++cg::A.drop (atB A cg):=l9 Pl.ahead A cg;rw[← K8]at eN;refine⟨j2+1,Pl.dO A cg,cg,by have:=tH.out;omega,EJ,⟨?_, ?_⟩,⟨_,_,_,_,jE.out,eN⟩,tA⟩
        ·rw[K8];exact pl_pair rT Pl.aN Qg.out.1 cg su.out.new
        ·have h1:=su.out.lt;rw[K8,List.length_append,List.length_cons,List.length_take,List.length_drop];omega
      |false=>
       have HAD:=uh (QN HC.out (ls.getD j2 Pl.aJ) k2 (j2+1) a2 c2 F2 A g2 q2 cg wr w3 jE.out Ix.out RO.out ML.out I7.out hen Qy.out HFM.out tA.out su.out (by have:=tH.out;omega) (by have:=tH.out;have:=HC.out.len;omega));rw[hen]at JD;by_cases qz:Pl.dR ⟨A,cg,true⟩ (ls.getD j2 Pl.aJ)=0
       rotate_left
       ·rw[if_neg qz]at ub;have EJ:=uh ub;have qg:=uh qz;clear ub qz hen FR HN;go_wp2_with (first
         |(go_at_call 78;refine JD.out.mono ?_;rintro e w4 ⟨rfl,rfl⟩)
         |(go_at_call 79;refine HAD.out.mono ?_;intro e w5 hx;obtain⟨_,rfl,fV⟩:=hx.resolve_right (fun h=>qg.out h.1);have fL:=uh fV;clear hx fV))
        try rw[Exit.noGoto_ret]
        go_ret;exact pe EJ.out.symm qg.out (Below.Ns fL.out tA.out)
       ·rw[if_pos qz]at ub;have EJ:=uh ub;have qg:=uh qz;clear ub qz hen FR HN;go_wp2_with (first
         |(go_at_call 78;refine JD.out.mono ?_;rintro e w4 ⟨rfl,rfl⟩)
         |(go_at_call 79;refine HAD.out.mono ?_;intro e w5 hx;obtain⟨_,rfl,Sb,fV,mG,BO,Ft⟩:=hx.resolve_left (fun h=>h.1 qg.out);have fL:=uh fV;have tV:=uh mG;have kr:=uh BO;have B9:=uh Ft;clear hx fV mG BO Ft))
        go_roundg (ls.length - (j2+1))
        case measure=>
         have h3:=tR.out;have h4:=tH.out;omega
        case rel=>exact⟨j2+1,Sb,⟨by have:=tH.out;have:=tR.out;omega,by have:=tH.out;omega⟩,by show _=_;rw[← fL.out];exact EJ.out,tV,kr,B9⟩
end Go.Proofs.YtopjjknojnfhmaaGreatDoor
namespace Go.Proofs.YtopjjknojnfhmaaGreatDoor
set_option maxHeartbeats 40000000
open Go.RowKit Go.Extern.Stop Go.Stop Go.Extern
theorem Kd (t:Value) (w:World):Calls Tryz.prog 32 #[.nilIface,t] w fun e w'=>e=.returned (.bool false)∧w=w':=by
 go_enter Tryz.func32,Tryz.ntmps32
 go_wp2;go_ret;exact⟨rfl,rfl⟩
theorem Tryz.Ae (t:Addr) (w:World):(ReflectliteValue.unpack (.iface 78 (.pointer (some t)))).run Tryz.prog w
  =.ok (.agg #[.pointer (some ⟨4,78,none⟩),.pointer (some ⟨w.heap.size,0,none⟩),.int .u64 150]) (w.alloc (.cells #[.pointer (some t)] 78)):=by kernel_rfl
theorem Tryz.type70 (a:Addr) (w:World):(ReflectliteValue.methodAny (ReflectliteValue.valueError "reflectlite.Value.Type" 0) (fun t _ _ _=>ReflectliteType.toType t) #[.agg #[.pointer (some ⟨4,78,none⟩),.pointer (some a),.int .u64 150]]).run Tryz.prog w
  =.ok (.iface 140 (.agg #[.pointer (some ⟨4,78,none⟩)])) w:=by kernel_rfl
theorem Tryz.xM (h:Value) (w:World):(Go.method 341 140 (.agg #[h]) "Kind").run Tryz.prog w=.ok (162,h) w:=by kernel_rfl
theorem Tryz.KP (w:World):((ReflectliteType.abiMethod fun t=>(fun a:Nat=>Value.int IntKind.u8 (a:Int))<$>Rtype.kind t) #[.pointer (some ⟨4,78,none⟩)]).run Tryz.prog w=.ok (.int .u8 22) w:=by kernel_rfl
theorem Tryz.Kv (w:World):((ReflectliteType.abiMethod fun t=>(fun a:Nat=>Value.int IntKind.u8 (a:Int))<$>Rtype.kind t) #[.pointer (some ⟨4,76,none⟩)]).run Tryz.prog w=.ok (.int .u8 25) w:=by kernel_rfl
theorem Tryz.xj (h:Value) (w:World):(Go.method 341 140 (.agg #[h]) "Elem").run Tryz.prog w=.ok (173,.agg #[h]) w:=by kernel_rfl
theorem Tryz.l7 (h:Value) (w:World):(Go.method 341 140 (.agg #[h]) "Implements").run Tryz.prog w=.ok (174,.agg #[h]) w:=by kernel_rfl
theorem Tryz.kG (h:Value) (w:World):(Go.method 341 140 (.agg #[h]) "AssignableTo").run Tryz.prog w=.ok (171,.agg #[h]) w:=by kernel_rfl
theorem Tryz.J8 (w:World):(ReflectliteType.method ReflectliteType.elem #[.agg #[.pointer (some ⟨4,78,none⟩)]]).run Tryz.prog w=.ok (.iface 140 (.agg #[.pointer (some ⟨4,76,none⟩)])) w:=by kernel_rfl
theorem Tryz.tf (w:World):(ReflectliteType.relation "Implements" ReflectliteType.implements_ #[.agg #[.pointer (some ⟨4,76,none⟩)],.iface 140 (.agg #[.pointer (some ⟨4,72,none⟩)])]).run Tryz.prog w=.ok (.bool true) w:=by kernel_rfl
theorem Tryz.DL (v:Value) (w:World):(ReflectliteType.typeOf #[.iface 76 v]).run Tryz.prog w=.ok (.iface 140 (.agg #[.pointer (some ⟨4,76,none⟩)])) w:=by kernel_rfl
theorem Tryz.tp (w:World):(ReflectliteType.relation "AssignableTo" ReflectliteType.assignableTo #[.agg #[.pointer (some ⟨4,76,none⟩)],.iface 140 (.agg #[.pointer (some ⟨4,76,none⟩)])]).run Tryz.prog w=.ok (.bool true) w:=by kernel_rfl
theorem Tryz.AO (x y:Value) (w:World):(ReflectliteValue.unpack (.iface 76 (.agg #[x,y]))).run Tryz.prog w
  =.ok (.agg #[.pointer (some ⟨4,76,none⟩),.pointer (some ⟨w.heap.size,0,none⟩),.int .u64 153]) (w.alloc (.cells #[x,y] 76)):=by kernel_rfl
theorem Tryz.Cr (w:World):(Rtype.elem? 78).run Tryz.prog w=.ok (some 76) w:=by kernel_rfl
theorem Tryz.QP (p:Addr) (w:World):(ReflectliteValue.mk 76 p ReflectliteValue.flagAddr).run Tryz.prog w=.ok (.agg #[.pointer (some ⟨4,76,none⟩),.pointer (some p),.int .u64 409]) w:=by kernel_rfl
theorem Tryz.GF (a p:Addr) (W:World) (ha:W.cell? a=some (.pointer (some p))):
  (ReflectliteValue.method (ReflectliteValue.valueError "reflectlite.Value.IsNil" 0) ReflectliteValue.isNil #[.agg #[.pointer (some ⟨4,78,none⟩),.pointer (some a),.int .u64 150]]).run Tryz.prog W=.ok (.bool false) W:=by
 have e:(ReflectliteValue.method (ReflectliteValue.valueError "reflectlite.Value.IsNil" 0) ReflectliteValue.isNil #[.agg #[.pointer (some ⟨4,78,none⟩),.pointer (some a),.int .u64 150]]).run Tryz.prog W=(ReflectliteValue.isNil 78 a 150 22).run Tryz.prog W:=by kernel_rfl
 rw[e];simp[ReflectliteValue.isNil,loadVar,isAgg,underlying,Tryz.underlying78,ha,Result.andThen]
theorem Tryz.Gy (a p:Addr) (W:World) (ha:W.cell? a=some (.pointer (some p))):
  (ReflectliteValue.method (ReflectliteValue.valueError "reflectlite.Value.Elem" 0) ReflectliteValue.elem #[.agg #[.pointer (some ⟨4,78,none⟩),.pointer (some a),.int .u64 150]]).run Tryz.prog W
   =.ok (.agg #[.pointer (some ⟨4,76,none⟩),.pointer (some p),.int .u64 409]) W:=by
 have e:(ReflectliteValue.method (ReflectliteValue.valueError "reflectlite.Value.Elem" 0) ReflectliteValue.elem #[.agg #[.pointer (some ⟨4,78,none⟩),.pointer (some a),.int .u64 150]]).run Tryz.prog W=(ReflectliteValue.elem 78 a 150 22).run Tryz.prog W:=by kernel_rfl
 rw[e];simp[ReflectliteValue.elem,loadVar,isAgg,underlying,Tryz.underlying78,ha,Result.andThen,Tryz.Cr,Tryz.QP]
theorem Kg (b:Nat) (x y:Value) (W:World) (cd:W.cell? ⟨b,0,none⟩=some x) (bJ:W.cell? ⟨b,1,none⟩=some y):(loadVar 76 ⟨b,0,none⟩).run Tryz.prog W=.ok (.agg #[x,y]) W:=by
 simp[loadVar,loadCells,loadCellsFrom,Addr.add,cd,bJ,Result.andThen]
theorem GK (tb:Nat) (x y:Int) (o0 o1:Value) (W:World) (ht0:W.cell? ⟨tb,0,none⟩=some o0) (ht1:W.cell? ⟨tb,1,none⟩=some o1) (hf:∀ o,W.frozen? ⟨tb,o,none⟩=false):
  (storeVar 76 ⟨tb,0,none⟩ (.agg #[.int .i64 x,.int .i64 y])).run Tryz.prog W=.ok () ((W.setCell ⟨tb,0,none⟩ (.int .i64 x)).setCell ⟨tb,1,none⟩ (.int .i64 y)):=by
 simp[storeVar,Value.cells,storeCells,Addr.add,Result.andThen];rw[run_store Tryz.prog W ⟨tb,0,none⟩ _ _ (by rfl)];simp only[ht0,hf,Bool.false_eq_true,if_false];rw[run_store Tryz.prog _ ⟨tb,1,none⟩ _ _ (by rfl)];rw[World.cell?_setCell_other _ _ _ _ (by simp),ht1];simp[hf]
theorem Tryz.Ni (tb b:Nat) (x y:Int) (o0 o1:Value) (W:World) (cd:W.cell? ⟨b,0,none⟩=some (.int .i64 x)) (bJ:W.cell? ⟨b,1,none⟩=some (.int .i64 y)) (ht0:W.cell? ⟨tb,0,none⟩=some o0) (ht1:W.cell? ⟨tb,1,none⟩=some o1) (hf:∀ o,W.frozen? ⟨tb,o,none⟩=false):
  (ReflectliteValue.set #[.agg #[.pointer (some ⟨4,76,none⟩),.pointer (some ⟨tb,0,none⟩),.int .u64 409],.agg #[.pointer (some ⟨4,76,none⟩),.pointer (some ⟨b,0,none⟩),.int .u64 153]]).run Tryz.prog W
   =.ok (.tuple #[]) ((W.setCell ⟨tb,0,none⟩ (.int .i64 x)).setCell ⟨tb,1,none⟩ (.int .i64 y)):=by
 have e:(ReflectliteValue.set #[.agg #[.pointer (some ⟨4,76,none⟩),.pointer (some ⟨tb,0,none⟩),.int .u64 409],.agg #[.pointer (some ⟨4,76,none⟩),.pointer (some ⟨b,0,none⟩),.int .u64 153]]).run Tryz.prog W
   =(((loadVar 76 ⟨b,0,none⟩)>>=fun val=>(storeVar 76 ⟨tb,0,none⟩ val)>>=fun _=>pure (Value.tuple #[])):Sem Value).run Tryz.prog W:=by kernel_rfl
 rw[e];simp only[Sem.run_bind,Kg b _ _ W cd bJ,Result.andThen,GK tb x y o0 o1 W ht0 ht1 hf];rfl
theorem Ko (tb:Nat) (x y:Int) (o0 o1:Value) (w:World) (hg:w.cell? ⟨0,0,none⟩=some (.iface 140 (.agg #[.pointer (some ⟨4,72,none⟩)]))) (ht0:w.cell? ⟨tb,0,none⟩=some o0) (ht1:w.cell? ⟨tb,1,none⟩=some o1) (hf0:∀ o,w.frozen? ⟨tb,o,none⟩=false) (qK:tb<w.heap.size):
  Calls Tryz.prog 32 #[.iface 76 (.agg #[.int .i64 x,.int .i64 y]),.iface 78 (.pointer (some ⟨tb,0,none⟩))] w fun ev w'=>ev=.returned (.bool true)∧w'=(((((w.alloc (.cells #[.pointer (some ⟨tb,0,none⟩)] 78)).alloc (.cells #[.pointer (some ⟨4,78,none⟩),.pointer (some ⟨w.heap.size,0,none⟩),.int .u64 150] 116)).alloc (.cells #[.pointer (some ⟨4,78,none⟩),.pointer (some ⟨w.heap.size,0,none⟩),.int .u64 150] 116)).alloc (.cells #[.int .i64 x,.int .i64 y] 76)).setCell ⟨tb,0,none⟩ (.int .i64 x)).setCell ⟨tb,1,none⟩ (.int .i64 y):=by
 have h49:= @run_callFunc_extern Tryz.prog 56 _ (fun args=>ReflectliteValue.unpack (args.getD 0 (.tuple #[]))) Tryz.func56 (by kernel_rfl) (by kernel_rfl) (by kernel_rfl) (by kernel_rfl);have h50:= @run_callFunc_extern Tryz.prog 57 _ (ReflectliteValue.methodAny (ReflectliteValue.valueError "reflectlite.Value.Type" 0) (fun t _ _ _=>ReflectliteType.toType t)) Tryz.func57 (by kernel_rfl) (by kernel_rfl) (by kernel_rfl) (by kernel_rfl);have h51:= @run_callFunc_extern Tryz.prog 58 _ (ReflectliteValue.method (ReflectliteValue.valueError "reflectlite.Value.IsNil" 0) ReflectliteValue.isNil) Tryz.func58 (by kernel_rfl) (by kernel_rfl) (by kernel_rfl) (by kernel_rfl);have h85:= @run_callFunc_extern Tryz.prog 162 _ (ReflectliteType.abiMethod fun t=>do pure (.int .u8 (← Rtype.kind t))) Tryz.func162 (by kernel_rfl) (by kernel_rfl) (by kernel_rfl) (by kernel_rfl);have h95:= @run_callFunc_extern Tryz.prog 173 _ (ReflectliteType.method ReflectliteType.elem) Tryz.func173 (by kernel_rfl) (by kernel_rfl) (by kernel_rfl) (by kernel_rfl);have h96:= @run_callFunc_extern Tryz.prog 174 _ (ReflectliteType.relation "Implements" ReflectliteType.implements_) Tryz.func174 (by kernel_rfl) (by kernel_rfl) (by kernel_rfl) (by kernel_rfl);have BT:= @run_callFunc_extern Tryz.prog 80 _ ReflectliteType.typeOf Tryz.func80 (by kernel_rfl) (by kernel_rfl) (by kernel_rfl) (by kernel_rfl);have h93:= @run_callFunc_extern Tryz.prog 171 _ (ReflectliteType.relation "AssignableTo" ReflectliteType.assignableTo) Tryz.func171 (by kernel_rfl) (by kernel_rfl) (by kernel_rfl) (by kernel_rfl);have h61:= @run_callFunc_extern Tryz.prog 81 _ (ReflectliteValue.method (ReflectliteValue.valueError "reflectlite.Value.Elem" 0) ReflectliteValue.elem) Tryz.func81 (by kernel_rfl) (by kernel_rfl) (by kernel_rfl) (by kernel_rfl);have h62:= @run_callFunc_extern Tryz.prog 82 _ ReflectliteValue.set Tryz.func82 (by kernel_rfl) (by kernel_rfl) (by kernel_rfl) (by kernel_rfl);have tO:=Tryz.DL;have mA:=Tryz.kG;have a68:=Tryz.tp;have v68:=Tryz.AO;have f6:=Tryz.Ae;have f7:=Tryz.type70;have mK:=Tryz.xM;have mE:=Tryz.xj;have mI:=Tryz.l7;have k70:=Tryz.KP;have k68:=Tryz.Kv;have e70:=Tryz.J8;have i68:=Tryz.tf;have bd:0<w.heap.size:=by omega
 have n8:=Tryz.GF ⟨w.heap.size,0,none⟩ ⟨tb,0,none⟩ ((w.alloc (.cells #[.pointer (some ⟨tb,0,none⟩)] 78)).alloc (.cells #[.pointer (some ⟨4,78,none⟩),.pointer (some ⟨w.heap.size,0,none⟩),.int .u64 150] 116)) (by simp);have ny:((w.alloc (.cells #[.pointer (some ⟨tb,0,none⟩)] 78)).alloc (.cells #[.pointer (some ⟨4,78,none⟩),.pointer (some ⟨w.heap.size,0,none⟩),.int .u64 150] 116)).cell? ⟨0,0,none⟩=some (.iface 140 (.agg #[.pointer (some ⟨4,72,none⟩)])):=by
  rw[World.cell?_alloc_lt _ _ ⟨0,0,none⟩ (by simp),World.cell?_alloc_lt _ _ ⟨0,0,none⟩ bd];exact hg
 have el:=Tryz.Gy ⟨w.heap.size,0,none⟩ ⟨tb,0,none⟩ (((w.alloc (.cells #[.pointer (some ⟨tb,0,none⟩)] 78)).alloc (.cells #[.pointer (some ⟨4,78,none⟩),.pointer (some ⟨w.heap.size,0,none⟩),.int .u64 150] 116)).alloc (.cells #[.pointer (some ⟨4,78,none⟩),.pointer (some ⟨w.heap.size,0,none⟩),.int .u64 150] 116)) (by rw[World.cell?_alloc_lt _ _ ⟨w.heap.size,0,none⟩ (by simp;omega)];simp);have hold:Bel w ((((w.alloc (.cells #[.pointer (some ⟨tb,0,none⟩)] 78)).alloc (.cells #[.pointer (some ⟨4,78,none⟩),.pointer (some ⟨w.heap.size,0,none⟩),.int .u64 150] 116)).alloc (.cells #[.pointer (some ⟨4,78,none⟩),.pointer (some ⟨w.heap.size,0,none⟩),.int .u64 150] 116)).alloc (.cells #[.int .i64 x,.int .i64 y] 76)):=ae (ae (ae (ae zR _) _) _) _;have st:=Tryz.Ni tb (w.heap.size+1+1+1) x y o0 o1 ((((w.alloc (.cells #[.pointer (some ⟨tb,0,none⟩)] 78)).alloc (.cells #[.pointer (some ⟨4,78,none⟩),.pointer (some ⟨w.heap.size,0,none⟩),.int .u64 150] 116)).alloc (.cells #[.pointer (some ⟨4,78,none⟩),.pointer (some ⟨w.heap.size,0,none⟩),.int .u64 150] 116)).alloc (.cells #[.int .i64 x,.int .i64 y] 76))
  (by rw[World.cell?_alloc_at _ _ _ _ (by simp)];rfl) (by rw[World.cell?_alloc_at _ _ _ _ (by simp)];rfl)
  ((hold.cell (p:=⟨tb,0,none⟩) qK).trans ht0) ((hold.cell (p:=⟨tb,1,none⟩) qK).trans ht1) (fun o=>(hold.frozen (p:=⟨tb,o,none⟩) qK).trans (hf0 o))
 clear hold;go_enter Tryz.func32,Tryz.ntmps32
 go_wp2;refine wp_loop_rounds 1 ?_;rw[rounds_succ];go_wp2;go_ret;exact⟨rfl,rfl⟩
end Go.Proofs.YtopjjknojnfhmaaGreatDoor
namespace Go.Proofs.YtopjjknojnfhmaaGreatDoor
set_option maxRecDepth 8000
set_option maxHeartbeats 40000000
open Go.RowKit Go.Deep
def Eb (o:List Pl.Bl×Nat×Nat) (w:World) (e:Ending) (w':World):Prop:=
 ((o.1=[]∧o.2.2≠0∧e=.returned (.tuple #[.slice none 0 0,.iface 76 (.agg #[.int .i64 (o.2.1:Nat),.int .i64 (o.2.2:Nat)])]))∨(o.2.1=0∧o.2.2=0∧∃ bv F,e=.returned (.tuple #[bv,.nilIface])∧Rep w' false [.row 41 ak] F [bD o.1] [bv]∧F.Nodup∧∀ b∈F,w.heap.size≤b))∧Bel w w'
theorem rC {o:List Pl.Bl×Nat×Nat} {w w':World} {i c:Nat} (ho:o=([],i,c)) (hc:c≠0) (hb:Bel w w'):Eb o w (.returned (.tuple #[.slice none 0 0,.iface 76 (.agg #[.int .i64 (i:Nat),.int .i64 (c:Nat)])])) w':=by
 subst ho;exact⟨Or.inl ⟨rfl,hc,rfl⟩,hb⟩
theorem xK (t:ByteArray) (w:World) (hs:t.size≤1048576):Calls Tryz.prog 31 #[.string t] w (Eb (Pl.eW t) w):=by
 have qx:=uh (mX t w (by unfold maxLen;omega));obtain⟨o,ho⟩:∃ o,o=Pl.eW t:=⟨_,rfl⟩
 rw[← ho];have HO:=uh ho;clear ho;by_cases hbig:20000<t.size
 ·have fO:Hid (o=([],0,11)):=by show _=_;rw[HO.out];unfold Pl.eW;rw[if_pos hbig]
  have OM:=uh hbig;clear hbig;go_enter Tryz.func31,Tryz.ntmps31
  go_wp2_with (go_at_call 20;refine qx.out.mono ?_;intro e w1 hx;obtain⟨ed,fV⟩:=hx;unfold vp at ed;rw[if_pos OM.out]at ed;subst ed;have fL:=uh fV;clear fV)
  go_ret2;exact rC fO.out (by decide) fL.out
 have HSM:Hid (t.size≤20000):=by show _≤_;omega
 obtain⟨ls,gJ⟩:∃ ls,ls=Pl.fM t:=⟨_,rfl⟩
 have IL:Hid (Calls Tryz.prog 20 #[.string t] w fun e w'=>∃ g c,e=.returned (.tuple #[.slice (some ⟨g,0,none⟩) ls.length c,.bool (decide (ls.length≤400))])∧Raw w' bB [.row ls.length (txD ls)] [.slice (some ⟨g,0,none⟩) ls.length c]∧Bel w w'):=by
  refine qx.out.mono ?_;intro e w1 hx;obtain⟨ed,fV⟩:=hx;unfold vp at ed;rw[if_neg hbig,← gJ]at ed;obtain⟨g,c,h1,h2⟩:=ed;exact⟨g,c,h1,h2,fV⟩
 have qa:Hid (∀ x∈ls,x.size≤1048576):=fun x hx=>by
  rw[gJ]at hx;have h1:=Pl.Ao t x hx;have h2:=HSM.out;omega
 have P5:Hid (o=if 400<ls.length then ([],0,11) else Pl.parseFrom Pl.C0 ls 0):=by show _=_;rw[HO.out,gJ];unfold Pl.eW;rw[if_neg hbig]
 clear gJ hbig qx;by_cases h4:ls.length≤400
 rotate_left
 ·have fO:Hid (o=([],0,11)):=by show _=_;rw[P5.out,if_pos (by omega)]
  have hd:decide (ls.length≤400)=false:=decide_eq_false h4;rw[hd]at IL;clear h4 hd;go_enter Tryz.func31,Tryz.ntmps31
  go_wp2_with (go_at_call 20;refine IL.out.mono ?_;intro e w1 hx;obtain⟨g,c,rfl,ed,fV⟩:=hx;have fL:=uh fV;clear ed fV)
  go_ret2;exact rC fO.out (by decide) fL.out
 have fO:Hid (Pl.parseFrom Pl.C0 ls 0=o):=by show _=_;rw[P5.out,if_neg (by omega)]
 have hd:decide (ls.length≤400)=true:=decide_eq_true h4;rw[hd]at IL;have Oa:=uh h4;have HK:=uh mW;clear h4 hd HO P5;go_enter Tryz.func31,Tryz.ntmps31
 go_wp2_with (go_at_call 20;refine IL.out.mono ?_;intro e w1 hx;obtain⟨g,c,rfl,ed,fV⟩:=hx;have mO:=uh ed;have fL:=uh fV;clear ed fV)
 refine(HK.out _).mono ?_;rintro e w2 ⟨mb,w0,vt,vb,vs,rfl,hm,h0,k1,k2,k3,hb⟩;have Lv:Hid (∀ kind,∃ ra rc,il kind vt vb vs=.slice ra (Pl.ai kind).length rc∧Raw w2 [.row 96 aF] [cQ (Pl.ai kind)] [.slice ra (Pl.ai kind).length rc]):=fun kind=>by
  obtain⟨v,F,he,fc,_⟩:=uL (w:=w1) kind h0 k1 k2 k3 hb;injection he with he
  obtain⟨ra,rc,hv⟩:=fc.raw.bm;subst hv;exact⟨ra,rc,he,fc.raw⟩
 have HC:Hid (RdC w2.heap.size mb (some ⟨g,0,none⟩) c ls vt vb vs w2):=⟨mO.out.later hb,hm,Lv.out,zE,Oa.out,qa.out⟩
 have lK:Hid (Bel w w2):=ah fL.out hb;clear hm h0 k1 k2 k3 hb Lv mO fL HK;obtain⟨w3,gh⟩:∃ w3,w3=w2.alloc (.cells #[.map (some mb),.slice (some ⟨g,0,none⟩) ls.length c,.int .i64 0,.slice none 0 0,.bool false,.slice none 0 0,.int .i64 0] 111):=⟨_,rfl⟩
 have tA:Hid (Bel w2 w3):=by show Below _ _ _;rw[gh];exact ae zR _
 have Jl:Hid (SC w2.heap.size mb (some ⟨g,0,none⟩) c ls 0 [] w3):=by
  refine⟨.slice none 0 0,false,.slice none 0 0,0, ?_,[],[],⟨rfl,.inl ⟨rfl,rfl⟩⟩,.nil,List.nodup_nil,(fun b hb=>by cases hb),(fun g hg=>by cases hg)⟩;rw[gh];exact al.new w2 _ _ _ rfl
 have MW:=uh (Nw HC.out o fO.out w3 Jl.out tA.out);obtain⟨rb,FI⟩:∃ rb,rb=w2.heap.size:=⟨_,rfl⟩
 have vW:=uh FI;go_upto_region 5 with fail
 rw[← gh];clear gh;rw[← FI]at MW ⊢;have wj:Hid (Bel w w3):=ah lK.out tA.out;by_cases hz:o.2.2=0
 rotate_left
 ·have HZ:=uh hz;clear hz FI;go_wp2_with (go_at_call 55;refine MW.out.mono ?_;intro e w4 hx;obtain⟨ed,fV⟩:=hx;obtain⟨mG,BO,rfl⟩:=ed.resolve_right (fun h=>HZ.out h.2.1);have fL:=uh fV;have tV:=uh mG;have kr:=uh BO;clear ed fV mG BO)
  go_ret2;exact⟨Or.inl ⟨tV.out,kr.out,rfl⟩,ah lK.out fL.out⟩
 ·have HZ:=uh hz;clear hz FI;go_wp2_with (go_at_call 55;refine MW.out.mono ?_;intro e w4 hx;obtain⟨ed,fV⟩:=hx;obtain⟨mG,BO,rfl,Ft,k,cw,cb,bv,op,eE,eN⟩:=ed.resolve_left (fun h=>h.2.1 HZ.out);have fL:=uh fV;have tV:=uh mG;have B9:=uh Ft;have nK:=uh eN;have c5:=eE.get 5 _ rfl;have cl:=eE.own.lt;clear ed fV mG BO Ft eE eN)
  go_ret2;obtain⟨cs,F,q1,q2,q3,q4,q5⟩:=nK.out;obtain⟨G,r,n1,n2,_⟩:=rj (sh:=ak) q1 q2 (fun e=>by rw[List.eq_nil_of_length_eq_zero e];rfl) (by have:=B9.out;unfold maxLen;omega) q3 q4 q5;refine⟨Or.inr ⟨tV.out,HZ.out,bv,G,rfl,r,n1,fun b hb=> ?_⟩,ah lK.out fL.out⟩;have h1:=n2 b hb;have h2:=vW.out;have h3:=lK.out.size;omega
def QO (o:List Pl.Bl×Nat×Nat) (W:World) (e:Ending) (w':World):Prop:=∃ c F,e=.returned (.tuple #[.agg c.toArray,.agg #[.int .i64 (o.2.1:Nat),.int .i64 (o.2.2:Nat)]])∧Rep w' false eU F [bD o.1] c∧F.Nodup∧(∀ b∈F,W.heap.size≤b)∧Bel W w'
def qE (W:World):Prop:=W.cell? ⟨0,0,none⟩=some (.iface 140 (.agg #[.pointer (some ⟨4,72,none⟩)]))
theorem qE.lt {W:World} (h:qE W):0<W.heap.size:=by
 rcases Nat.lt_or_ge 0 W.heap.size with q|q
 ·exact q
 ·unfold qE World.cell? at h;rw[Array.getElem?_eq_none (by simpa using q)]at h;cases h
theorem qE.later {W W':World} (h:qE W) (hb:Bel W W'):qE W':=(hb.cell (p:=⟨0,0,none⟩) h.lt).trans h
theorem GH (tb:Nat) (x y:Int) (w w3:World) (MH:tb=w.heap.size) (gh:w3=w.alloc (.cells #[.int .i64 0,.int .i64 0] 76)) (hg:qE w):
  Calls Tryz.prog 32 #[.iface 76 (.agg #[.int .i64 x,.int .i64 y]),.iface 78 (.pointer (some ⟨tb,0,none⟩))] w3 fun ev w'=>ev=.returned (.bool true)∧Bel w w'∧w'.cell? ⟨tb,0,none⟩=some (.int .i64 x)∧w'.cell? ⟨tb,1,none⟩=some (.int .i64 y)∧tb<w'.heap.size:=by
 have ic:=al.new w [.int .i64 0,.int .i64 0] 76 tb MH;have eP:Bel w w3:=by rw[gh];exact ae zR _
 rw[← gh]at ic;refine(Ko tb x y (.int .i64 0) (.int .i64 0) w3 (hg.later eP) (ic.get 0 _ rfl) (ic.get 1 _ rfl) (fun o=>by obtain⟨cur,hc,_⟩:=ic.own;simp[World.frozen?,hc]) ic.own.lt).mono ?_;rintro ev w' ⟨rfl,rfl⟩;have yF:=ae (ae (ae (ae (Below.refl w3.heap.size w3) (.cells #[.pointer (some ⟨tb,0,none⟩)] 78)) (.cells #[.pointer (some ⟨4,78,none⟩),.pointer (some ⟨w3.heap.size,0,none⟩),.int .u64 150] 116)) (.cells #[.pointer (some ⟨4,78,none⟩),.pointer (some ⟨w3.heap.size,0,none⟩),.int .u64 150] 116)) (.cells #[.int .i64 x,.int .i64 y] 76);have oz:=(ic.later yF)
 have h1:=oz.set 0 (.int .i64 x) (by decide);have h2:=h1.set 1 (.int .i64 y) (by simp);exact⟨rfl,((ah eP yF).setCell (p:=⟨tb,0,none⟩) (show w.heap.size≤tb by omega) _).setCell (p:=⟨tb,1,none⟩) (show w.heap.size≤tb by omega) _,h2.get 0 _ rfl,h2.get 1 _ rfl,h2.own.lt⟩
theorem y9 {W:World} {p:Nat} {u:TypeId} {cs:List Value} (h:al W p u cs):∀ o,W.frozen? ⟨p,o,none⟩=false:=fun o=>by
 obtain⟨cur,hc,_⟩:=h.own;simp[World.frozen?,hc]
theorem jT {S:Nat→Prop} (W:World) (b o:Nat) (v:Value) (h:S b):Frm S W (W.setCell ⟨b,o,none⟩ v):=
 ⟨rfl,rfl,rfl,by simp[World.setCell],fun k _ hn=>Below.heap_setCell _ _ _ _ (fun e=>hn (by rw[e];exact h))⟩
theorem uA (t:ByteArray) (w:World) (hg:qE w) (hs:t.size≤1048576):Calls Tryz.prog 9 #[.string t] w (QO (Pl.eW t) w):=by
 obtain⟨o,ho⟩:∃ o,o=Pl.eW t:=⟨_,rfl⟩
 have MY:Hid (∀ X,Calls Tryz.prog 31 #[.string t] X (Eb o X)):=fun X=>by rw[ho];exact xK t X hs
 rw[← ho];clear ho;have HG:=uh hg;clear hg;obtain⟨b0,cd⟩:∃ b0,b0=w.heap.size:=⟨_,rfl⟩
 obtain⟨w1,qq⟩:∃ w1,w1=(w.alloc (.cells #[.slice none 0 0] 25)).alloc (.cells #[.int .i64 0,.int .i64 0] 30):=⟨_,rfl⟩
 have gE:Hid (Bel w w1):=by show Below _ _ _;rw[qq];exact ae (ae zR _) _
 have Q5:Hid (al w1 b0 25 [.slice none 0 0]):=by
  show al _ _ _ _;rw[qq];exact(al.new w [.slice none 0 0] _ b0 cd).later (ae zR _)
 have mO:Hid (al w1 (b0+1) 30 [.int .i64 0,.int .i64 0]):=by
  show al _ _ _ _;rw[qq];exact al.new _ [.int .i64 0,.int .i64 0] _ _ (by simp[cd])
 have Il:Hid (b0=w.heap.size):=cd;by_cases hz:o.2.2=0
 ·have HZ:=uh hz;clear hz;go_enter Tryz.func9,Tryz.ntmps9
  go_upto_region 1 with fail
  rw[← qq,← cd];clear qq cd;go_upto_region 2 with(go_at_call 31;refine(MY.out _).mono ?_;intro e w2 hx;obtain⟨ed,fV⟩:=hx;obtain⟨h1,h2,bv,F,rfl,h3,h4,h5⟩:=ed.resolve_left (fun h=>h.2.1 HZ.out);obtain⟨ya,yc,HU⟩:=h3.raw.bm;subst HU;have fL:=uh fV;have Sv:=uh h1;have HR:=uh h3;have RO:=uh h4;have lM:=uh h5;clear ed fV h1 h2 h3 h4 h5)
  obtain⟨w3,gh⟩:∃ w3,w3=w2.alloc (.cells #[.int .i64 0,.int .i64 0] 76):=⟨_,rfl⟩
  have Fb:Hid (Bel w2 w3):=by show Below _ _ _;rw[gh];exact ae zR _
  have Y0:=(Q5.out.later fL.out).later Fb.out;have Y1:=(mO.out.later fL.out).later Fb.out;have y0:=Y0.get 0 _ rfl;have y1:=Y1.get 0 _ rfl;have y2:=Y1.get 1 _ rfl;have f0:=y9 Y0;have f1:=y9 Y1;have l0:=Y0.own.lt;have l1:=Y1.own.lt;have tw:Hid (b0+1<w1.heap.size):=mO.out.own.lt;obtain⟨X,hX⟩:∃ X,X=((w3.setCell ⟨b0,0,none⟩ (.slice ya o.1.length yc)).setCell ⟨b0+1,0,none⟩ (.int .i64 0)).setCell ⟨b0+1,1,none⟩ (.int .i64 0):=⟨_,rfl⟩
  have wM:=uh hX;have nb:b0≠b0+1:=by omega
  have nb2:b0+1≠b0:=by omega
  have QY:Hid (al X b0 25 [(.slice ya o.1.length yc)]):=by
   show al _ _ _ _;rw[hX];exact((Y0.set 0 (.slice ya o.1.length yc) (by simp)).other nb 0 (.int .i64 0)).other nb 1 (.int .i64 0)
  have RJ:Hid (al X (b0+1) 30 [.int .i64 0,.int .i64 0]):=by
   show al _ _ _ _;rw[hX];exact((Y1.other nb2 0 (.slice ya o.1.length yc)).set 0 (.int .i64 0) (by simp)).set 1 (.int .i64 0) (by simp)
  clear hX;clear Y0 Y1;go_upto_region 3 with fail
  rw[← gh];clear gh;go_wp2_with (go_at_call 32;refine(Kd _ _).mono ?_;rintro e w4 ⟨rfl,rfl⟩)
  rw[← wM.out];refine bodyPost_ret (v:=.tuple #[.agg #[(.slice ya o.1.length yc)],.agg #[.int .i64 0,.int .i64 0]]) (by simp[results,Tryz.results9,asAddr,run_loadVar_mid (P:=Tryz.prog) _ _ _ 25 [(.slice ya o.1.length yc)] _ QY.out.at_ Tryz.underlying25 rfl (by kernel_rfl),run_loadVar_mid (P:=Tryz.prog) _ _ _ 30 [.int .i64 0,.int .i64 0] _ RJ.out.at_ Tryz.underlying30 rfl (by kernel_rfl)]) rfl ?_;have hf:Frm (fun b=>b=b0∨b=b0+1) w3 X:=by
   rw[wM.out];exact((jT _ _ _ _ (Or.inl rfl)).trans (jT _ _ _ _ (Or.inr rfl))).trans (jT _ _ _ _ (Or.inr rfl))
  have hr:=(HR.out.later Fb.out).frm hf (fun b hb e=>by
   have h1:=lM.out b hb;have h2:=tw.out;omega)
  refine⟨[(.slice ya o.1.length yc)],F,by rw[Sv.out,HZ.out];rfl,hr,RO.out,fun b hb=> ?_, ?_⟩
  ·have h1:=lM.out b hb;have h2:=gE.out.size;omega
  ·exact hf.below (fun b e=>by have:=Il.out;omega) (ah (ah gE.out fL.out) Fb.out)
 ·have HZ:=uh hz;clear hz;go_enter Tryz.func9,Tryz.ntmps9
  go_upto_region 1 with fail
  rw[← qq,← cd];clear qq cd;go_upto_region 2 with(go_at_call 31;refine(MY.out _).mono ?_;intro e w2 hx;obtain⟨ed,fV⟩:=hx;obtain⟨h1,h2,rfl⟩:=ed.resolve_right (fun h=>HZ.out h.2.1);have fL:=uh fV;have Sv:=uh h1;clear ed fV h1 h2)
  obtain⟨w3,gh⟩:∃ w3,w3=w2.alloc (.cells #[.int .i64 0,.int .i64 0] 76):=⟨_,rfl⟩
  have Fb:Hid (Bel w2 w3):=by show Below _ _ _;rw[gh];exact ae zR _
  obtain⟨tb,MH⟩:∃ tb,tb=w2.heap.size:=⟨_,rfl⟩
  have HTB:=uh MH;have Js:=uh (GH tb ((o.2.1:Nat):Int) ((o.2.2:Nat):Int) w2 w3 MH gh ((HG.out.later gE.out).later fL.out));go_upto_region 3 with fail
  rw[← gh,← MH];clear gh MH;go_upto_region 4 with(go_at_call 32;refine Js.out.mono ?_;intro e w4 hx;obtain⟨rfl,ed,t0,t1,tl⟩:=hx;have kr:=uh ed;clear ed)
  have Y0:=(Q5.out.later fL.out).later kr.out;have Y1:=(mO.out.later fL.out).later kr.out;have y0:=Y0.get 0 _ rfl;have y1:=Y1.get 0 _ rfl;have y2:=Y1.get 1 _ rfl;have f0:=y9 Y0;have f1:=y9 Y1;have l0:=Y0.own.lt;have l1:=Y1.own.lt;have lP:Hid (b0+1<tb):=by
   have h1:=mO.out.own.lt;have h2:=fL.out.size;have h3:=HTB.out;show _<_;omega
  have n1:tb≠b0:=by have:=lP.out;omega
  have n2:tb≠b0+1:=by have:=lP.out;omega
  have n3:b0≠tb:=by have:=lP.out;omega
  have n4:b0+1≠tb:=by have:=lP.out;omega
  obtain⟨X,hX⟩:∃ X,X=(((w4.setCell ⟨b0,0,none⟩ (.slice none 0 0)).setCell ⟨b0+1,0,none⟩ (.int .i64 ((o.2.1:Nat):Int))).setCell ⟨b0+1,1,none⟩ (.int .i64 ((o.2.2:Nat):Int))).drew:=⟨_,rfl⟩
  have wM:=uh hX;have nb:b0≠b0+1:=by omega
  have nb2:b0+1≠b0:=by omega
  have QY:Hid (al X b0 25 [.slice none 0 0]):=by
   show al _ _ _ _;rw[hX];exact(((Y0.set 0 (.slice none 0 0) (by simp)).other nb 0 (.int .i64 ((o.2.1:Nat):Int))).other nb 1 (.int .i64 ((o.2.2:Nat):Int))).later ⟨rfl,rfl,rfl,zE,fun _ _=>rfl⟩
  have RJ:Hid (al X (b0+1) 30 [.int .i64 ((o.2.1:Nat):Int),.int .i64 ((o.2.2:Nat):Int)]):=by
   show al _ _ _ _;rw[hX];exact(((Y1.other nb2 0 (.slice none 0 0)).set 0 (.int .i64 ((o.2.1:Nat):Int)) (by simp)).set 1 (.int .i64 ((o.2.2:Nat):Int)) (by simp)).later ⟨rfl,rfl,rfl,zE,fun _ _=>rfl⟩
  clear Y0 Y1 hX;go_region
  go_wp2;rw[← wM.out];refine bodyPost_ret (v:=.tuple #[.agg #[.slice none 0 0],.agg #[.int .i64 ((o.2.1:Nat):Int),.int .i64 ((o.2.2:Nat):Int)]]) (by simp[results,Tryz.results9,asAddr,run_loadVar_mid (P:=Tryz.prog) _ _ _ 25 [.slice none 0 0] _ QY.out.at_ Tryz.underlying25 rfl (by kernel_rfl),run_loadVar_mid (P:=Tryz.prog) _ _ _ 30 [.int .i64 ((o.2.1:Nat):Int),.int .i64 ((o.2.2:Nat):Int)] _ RJ.out.at_ Tryz.underlying30 rfl (by kernel_rfl)]) rfl ?_;have hf:Frm (fun b=>b=b0∨b=b0+1) w4 X:=by
   rw[wM.out];exact(((jT _ _ _ _ (Or.inl rfl)).trans (jT _ _ _ _ (Or.inr rfl))).trans (jT _ _ _ _ (Or.inr rfl))).trans (Frm.aG ⟨rfl,rfl,rfl,zE,fun _ _=>rfl⟩)
  refine⟨[.slice none 0 0],[],rfl,by rw[Sv.out];exact .emp _ _ _ rfl .nil,List.nodup_nil,(fun b hb=>by cases hb), ?_⟩;exact hf.below (fun b e=>by have:=Il.out;omega) (ah (ah gE.out fL.out) kr.out)
end Go.Proofs.YtopjjknojnfhmaaGreatDoor
