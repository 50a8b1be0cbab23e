import Derived.Test.YtmgibmmpopoboaaEPg
import Derived.Test.YtmgibmmpopoboaaECl
import Derived.Test.YtmgibmmpopoboaaEFd
namespace Go.Proofs.Ytmgibmmpopoboaa
set_option maxHeartbeats 40000000
open Go.RowKit Go.Deep
theorem rW (s:List Pl.Bl) (v:Value) (kind name:ByteArray) (w:World) (h:Raw w aV [aW s] [v]):
  Calls Try.prog 41 #[.agg #[v],.string kind,.string name] w fun e w'=>e=.returned (.int .i64 (Pl.ixI (Pl.dJ s kind name)))∧Bel w w':=by
 have HL:=uh h;obtain⟨va,vc,ev⟩:=h.aP;subst ev;clear h;obtain⟨n,hn⟩:∃ n,n=s.length:=⟨_,rfl⟩
 have HN:=uh hn;have eD:s.length=n:=hn.symm;clear hn;rw[eD];clear eD;obtain⟨wa,aS⟩:∃ wa,wa=w.alloc (.cells #[.slice va n vc] 25):=⟨_,rfl⟩
 have jP:Hid (Bel w wa):=by show Below _ _ _;rw[aS];exact ah zR _
 have cu:Hid (aD wa w.heap.size [.slice va n vc]):=by show aD _ _ _;rw[aS];exact aD.new w #[.slice va n vc] _ _ rfl
 go_enter Try.func41,Try.ntmps41
 go_upto_region 1 with fail
 rw[← aS];clear aS;have x0:=cu.out.get 0 _ rfl;have xl:=cu.out.lt;obtain⟨b0,bD⟩:∃ b0,b0=w.heap.size:=⟨_,rfl⟩
 rw[← bD]at x0 xl ⊢;have iG:=uh bD;clear bD;go_wp2;go_loop [7] (fun i=>∃ k:Nat,k≤n∧i=.int .i64 k∧Pl.dJ s kind name=Pl.findF kind name (s.drop k) k) (fun i=>n - (intOf i).toNat)
 case atStart=>exact⟨0,zN,rfl,rfl⟩
 case round=>
  obtain⟨k,hk,rfl,hI⟩:=hrel;have HI:=uh hI;clear hI;by_cases bN:k<n
  rotate_left
  ·have HX:Hid (-1=Pl.ixI (Pl.dJ s kind name)):=by
    show _=_;obtain rfl:k=s.length:=by have:=HN.out;omega
    rw[Pl.xx HI.out];rfl
   go_wp2;go_ret;exact⟨Pl.dh HX.out,(by have h:=iG.out;subst h;exact jP.out)⟩
  have eP:k<s.length:=by have:=HN.out;omega
  rcases cL (HL.out.ae jP.out) with⟨e0,_⟩|⟨p,o,c,hv,hp,ec,aZ⟩
  ·omega
  rw[← HN.out]at hv ec;injection hv with g1 _ g3
  subst g1;subst g3;unfold maxLen at ec;obtain⟨ax,cx,dO,dF⟩:=aZ k eP;have HM:=uh (fun (h:Pl.isB kind name (s.getD k Pl.aG)=false)=>Pl.uE eP HI.out h);have HH:=uh (fun (h:Pl.isB kind name (s.getD k Pl.aG)=true)=>Pl.xB eP HI.out h);obtain⟨x,hx⟩:∃ x,x=s.getD k Pl.aG:=⟨_,rfl⟩
  rw[← hx]at dO dF HM HH;have y0:wa.cell? ⟨p,o+k*3,none⟩=some (.string x.kind):=aF dO 0 _ rfl;have y1:wa.cell? ⟨p,o+k*3+1,none⟩=some (.string x.name):=aF dO 1 _ rfl;have dd:(0:Int)≤(k:Int):=by omega
  have de:(k:Int)<(n:Int):=by omega
  have HB:Hid (Pl.isB kind name x=((x.kind.toList==kind.toList)&&(x.name.toList==name.toList))):=rfl;clear hx aZ dO dF;cases h1:(x.kind.toList==kind.toList)
  ·have HX:=uh (HM.out (by rw[HB.out,h1];rfl));go_wp2;go_round
   case rel=>exact⟨k+1,by omega,by go_num,HX.out⟩
   case measure=>simp[intOf];omega
  cases h2:(x.name.toList==name.toList)
  ·have HX:=uh (HM.out (by rw[HB.out,h1,h2];rfl));go_wp2;go_round
   case rel=>exact⟨k+1,by omega,by go_num,HX.out⟩
   case measure=>simp[intOf];omega
  ·have HX:Hid ((k:Int)=Pl.ixI (Pl.dJ s kind name)):=by show _=_;rw[HH.out (by rw[HB.out,h1,h2];rfl)];rfl
   go_wp2;go_ret;exact⟨Pl.dh HX.out,(by have h:=iG.out;subst h;exact jP.out)⟩
structure Sv (wa W:World) (t:TypeId) (sh:List Sh) (v:Value) (n:Nat) (es:List Dt) (xs:List Value):Prop where
 row:W.ownsRow wa.heap.size t sh.length v n xs
 raw:Raw wa (bP n sh) es xs
theorem Sv.ae {wa W W':World} {t:TypeId} {sh:List Sh} {v:Value} {n:Nat} {es:List Dt} {xs:List Value} (h:Sv wa W t sh v n es xs) (hb:Bel W W'):Sv wa W' t sh v n es xs:=⟨dX h.row hb,h.raw⟩
theorem Sv.emp {wa W:World} {g:Nat} {t:TypeId} (sh:List Sh) (hg:W.heap[g]? =some (.cells #[] t (0,0))) (hl:wa.heap.size≤g):Sv wa W t sh (.slice (some ⟨g,0,none⟩) 0 0) 0 [] []:=⟨(Gr.emp sh hg hl).row,.nil⟩
theorem Sv.shape {wa W:World} {t:TypeId} {sh:List Sh} {v:Value} {n:Nat} {es:List Dt} {xs:List Value} (h:Sv wa W t sh v n es xs):∃ a c,v=.slice a n c:=by
 rcases h.row.2 with⟨e,rfl⟩|⟨_,_,_,e,_⟩
 ·exact⟨_,_,e⟩
 ·exact⟨_,_,e⟩
theorem Sv.done {wa W:World} {t:TypeId} {sh:List Sh} {v:Value} {n:Nat} {es:List Dt} {xs:List Value} (h:Sv wa W t sh v n es xs) (hb:Bel wa W):Raw W [.row t sh] [.row n es] [v]:=by
 rcases h.row.2 with⟨rfl,rfl⟩|⟨g,cap,cur,rfl,q2,q3,q4,q5,q6,q7⟩
 ·have hr:=h.raw;rw[dj]at hr;cases hr
  exact .emp _ _ none 0 .nil
 ·refine .row t sh g 0 n cap xs es (Array.getElem?_eq_some_iff.1 q3).1 ⟨Nat.le_trans q4 q5,q4⟩ ?_ (h.raw.ae hb) .nil;intro j x hx;rw[← q7]at hx;have hl:j<n*sh.length:=by have:=(List.getElem?_eq_some_iff.1 hx).1;rw[List.length_take]at this;omega
  rw[List.getElem?_take_of_lt hl]at hx;rw[Nat.zero_add];simp only[World.cell?,q3];simpa using hx
theorem Sv.below {wa W W':World} {t:TypeId} {sh:List Sh} {v:Value} {n:Nat} {es:List Dt} {xs:List Value} (h:Sv wa W t sh v n es xs) (hb:Bel wa W) (hg:W.grownBy W' v.ownBlock):Bel wa W':=
 fg hb hg fun _ hb=>(bK h.row hb).1
theorem kJ {wa w:World} {ops:Array Oper} {rest:List Oper} {o:Oper} {a:Act} {Q:Exit→Act→World→Prop} (oU:o.guard=none) (s x:Operand)
  (ho:o.op=.call {callee:=.builtin .append,args:=#[s,x],argTypes:=#[30,30]}) (v:Value) (n:Nat) (es:List Dt) (xs:List Value) (hs:a.eval s=v) (hU:Sv wa w 53 au v n es xs)
  (B c:Nat) (e:List Dt) (cs:List Value) (hx:a.eval x=.slice (some ⟨B,0,none⟩) 1 c) (hr:Raw wa au e cs) (hnews:∀ j u,cs[j]? =some u→w.cell? ((⟨B,0,none⟩:Addr).add j)=some u)
  (EM:n≤8388608) (eN:wa.heap.size≤w.heap.size)
  (h:∀ g cap w',Sv wa w' 53 au (.slice (some ⟨g,0,none⟩) (n+1) cap) (n+1) (es++e) (xs++cs)→w.grownBy w' v.ownBlock→wpList Try.prog ops Q rest (a.put o.dst (.slice (some ⟨g,0,none⟩) (n+1) cap)) w'):wpList Try.prog ops Q (o::rest) a w:=by
 obtain⟨i0,hi,ee,gi,jT⟩:=iZ Try.ey;refine wpList_append_lies w oU s x 30 ho wa.heap.size 53 i0 _ 2 40 Try.bW hi ee gi jT rfl (by omega) v n xs hs hU.row ⟨B,0,none⟩ 1 c cs hx (by rw[hr.len];rfl) hnews
  (fun u hu=>hr.one u hu) (by decide) (by unfold maxLen;omega) (by omega) eN _ rfl fun g cap w' q1 q2 _ _=>h g cap w' ⟨q1, ?_⟩ q2
 rw[dx];exact hU.raw.app hr
end Go.Proofs.Ytmgibmmpopoboaa
