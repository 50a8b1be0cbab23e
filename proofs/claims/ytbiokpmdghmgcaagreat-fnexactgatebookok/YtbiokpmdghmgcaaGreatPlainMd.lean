import Derived.Deep.QuietTactic
import Derived.Deep.DeepCutAuto
import Derived.WalkMore
import Derived.Deep.LoopGhost
import Derived.Test.YtbiokpmdghmgcaaGreatWalkMF
import Derived.Test.YtbiokpmdghmgcaaGreatWalkML
import Derived.Test.YtbiokpmdghmgcaaGreatWalkAI
namespace Go.Proofs.YtbiokpmdghmgcaaGreat
set_option maxRecDepth 8000
set_option maxHeartbeats 40000000
open Go.RowKit Go.Deep
theorem Tryz.B3:(Tryz.prog.info? 238).map (fun i=>(i.zero,i.size,i.bytes))=some (some (.agg #[.int .i64 0,.slice none 0 0,.string ByteArray.empty,.int .i64 0]),4,56):=by kernel_rfl
def mS (w:World) (xs:List Value) (o:Nat) (x:Mng):Prop:=
 ∃ a c,xs[o]? =some (.int .i64 (x.field:Nat))∧xs[o+1]? =some (.slice a x.needs.length c)∧xs[o+2]? =some (.string x.put)∧xs[o+3]? =some (.int .i64 (x.frm:Nat))∧fZ w 0 (.slice a x.needs.length c) x.needs
def fM (w:World) (lo:Nat) (v:Value) (L:List Mng):Prop:=
 ∃ xs,w.ownsRow lo 238 4 v L.length xs∧∀ i,i<L.length→mS w xs (i*4) (L.getD i Mng.none)
theorem mS.later {w w':World} {xs:List Value} {o:Nat} {x:Mng} (h:mS w xs o x) (hb:Bel w w'):mS w' xs o x:=by
 obtain⟨a,c,h0,h1,h2,h3,h4⟩:=h;exact⟨a,c,h0,h1,h2,h3,cL h4 hb⟩
theorem fM.later {w w':World} {lo:Nat} {v:Value} {L:List Mng} (h:fM w lo v L) (hb:Bel w w'):fM w' lo v L:=by
 obtain⟨xs,h1,h2⟩:=h;exact⟨xs,cL h1 hb,fun i hi=>(h2 i hi).later hb⟩
theorem fM.nil (w:World) (lo:Nat):fM w lo (.slice none 0 0) []:=⟨[],World.ownsRow_nil _ _ _ _,fun i hi=>absurd hi (Nat.not_lt_zero i)⟩
theorem mS.snoc {w:World} {xs:List Value} {o:Nat} {x:Mng} (h:mS w xs o x) (ys:List Value):mS w (xs++ys) o x:=by
 obtain⟨a,c,h0,h1,h2,h3,h4⟩:=h;have q:∀ {j:Nat} {u:Value},xs[j]? =some u→(xs++ys)[j]? =some u:=fun {j u} hj=>by
  rw[List.getElem?_append_left (List.getElem?_eq_some_iff.1 hj).1];exact hj
 exact⟨a,c,q h0,q h1,q h2,q h3,h4⟩
theorem mS.grown {w w':World} {xs:List Value} {o:Nat} {x:Mng} (h:mS w xs o x) {lo n:Nat} {v:Value} {ys:List Value} (ho:w.ownsRow lo 238 4 v n ys) (hg:w.grownBy w' v.ownBlock):mS w' xs o x:=by
 obtain⟨a,c,h0,h1,h2,h3,h4⟩:=h;exact⟨a,c,h0,h1,h2,h3,nh h4 ho (by decide) hg⟩
theorem uh {w w':World} {lo:Nat} {v v':Value} {L:List Mng} {x:Mng} {xs:List Value} (h:w.ownsRow lo 238 4 v L.length xs) (hx:∀ i,i<L.length→mS w xs (i*4) (L.getD i Mng.none)) {a:Option Addr} {n c:Nat} (hn:fZ w 0 (.slice a n c) x.needs)
  (ho:w'.ownsRow lo 238 4 v' (L.length+1) (xs++[.int .i64 (x.field:Nat),.slice a n c,.string x.put,.int .i64 (x.frm:Nat)])) (hg:w.grownBy w' v.ownBlock):fM w' lo v' (L++[x]):=by
 have hlen:n=x.needs.length:=by obtain⟨a',c',e⟩:=ep hn;injection e
 subst hlen;have hl:xs.length=L.length*4:=h.1;refine⟨_,by rw[List.length_append];exact ho,fun i hi=> ?_⟩;rw[List.length_append,List.length_singleton]at hi;by_cases hik:i<L.length
 ·have e:(L++[x]).getD i Mng.none=L.getD i Mng.none:=by simp[hik,List.getElem?_append_left hik]
  rw[e];exact((hx i hik).grown h hg).snoc _
 ·obtain rfl:i=L.length:=by omega
  have e:(L++[x]).getD L.length Mng.none=x:=by simp
  rw[e];have q:∀ j,(xs++[.int .i64 (x.field:Nat),.slice a x.needs.length c,.string x.put,.int .i64 (x.frm:Nat)])[L.length*4+j]? =[Value.int .i64 (x.field:Nat),.slice a x.needs.length c,.string x.put,.int .i64 (x.frm:Nat)][j]? :=fun j=>by
   rw[List.getElem?_append_right (by omega)];congr 1;omega
  exact⟨a,c,q 0,q 1,q 2,q 3,nh hn h (by decide) hg⟩
def found (fs:List Fld) (m:Mnd):Prop:=nameAt fs m.field<fs.length∧(Pl.aE m.whn=false→nameAt fs m.whn<fs.length)∧(Pl.aE m.frm=false→nameAt fs m.frm<fs.length)
def bk (K:ByteArray) (m:Mnd):Bool:=m.kind.toList==K.toList
def dQ (fs:List Fld) (ms:List Mnd) (K:ByteArray) (k:Nat):List Mng:=((ms.take k).filter (bk K)).map (dY fs)
def bx (fs:List Fld) (ms:List Mnd) (K:ByteArray):List Mng:=(ms.filter (bk K)).map (dY fs)
theorem oI (fs:List Fld) (ms:List Mnd) (K:ByteArray) (k:Nat):(dQ fs ms K k).length≤ms.length:=by
 unfold dQ;rw[List.length_map];exact Nat.le_trans (List.length_filter_le _ _) (by rw[List.length_take];omega)
theorem rA (fs:List Fld) (ms:List Mnd) (K:ByteArray) (k:Nat) (hk:k<ms.length):dQ fs ms K (k+1)=dQ fs ms K k++(if bk K (ms.getD k Mnd.none)=true then [dY fs (ms.getD k Mnd.none)] else []):=by
 have e:ms.getD k Mnd.none=ms[k]:=by simp[hk]
 unfold dQ;rw[e,List.take_succ_eq_append_getElem hk,List.filter_append,List.map_append];congr 1;by_cases h:bk K ms[k]=true
 ·simp[h]
 ·simp[h]
theorem nj (fs:List Fld) (ms:List Mnd) (K:ByteArray) (k:Nat) (hk:ms.length≤k):dQ fs ms K k=bx fs ms K:=by
 unfold dQ bx;rw[List.take_of_length_le hk]
theorem nV (s:Shp) (fb mb:Nat) (ms:List Mnd) (w:World) (h:bW w fb s.fields) (hm:dy w mb ms) (gJ:∀ m∈ms,bk s.kind m=true→found s.fields m):
  Calls Tryz.prog 135 #[.agg #[.string s.kind,.slice (some ⟨fb,0,none⟩) s.fields.length s.fields.length],.slice (some ⟨mb,0,none⟩) ms.length ms.length] w fun e w'=>
   (∃ a n c,e=.returned (.slice a n c)∧fM w' w.heap.size (.slice a n c) (bx s.fields ms s.kind))∧Bel w w':=by
 have hl:=hm.len;have HA:=hid (And.intro h (And.intro hm gJ));obtain⟨i0,hi,mV,jq,gR⟩:=info_parts Tryz.B3;clear h hm gJ;have fT:Hid (Bel w (w.alloc (.cells #[.string s.kind,.slice (some ⟨fb,0,none⟩) s.fields.length s.fields.length] 134))):=ab br _;go_enter Tryz.func135,Tryz.ntmps135
 go_wp2;go_loopw [5,10] (fun v i wr=>∃ (k:Nat) (a:Option Addr) (c:Nat),k≤ms.length∧i=.int .i64 k∧v=.slice a (dQ s.fields ms s.kind k).length c∧fM wr (w.heap.size+1) v (dQ s.fields ms s.kind k)∧Below (w.alloc (.cells #[.string s.kind,.slice (some ⟨fb,0,none⟩) s.fields.length s.fields.length] 134)).heap.size (w.alloc (.cells #[.string s.kind,.slice (some ⟨fb,0,none⟩) s.fields.length s.fields.length] 134)) wr) (fun _ i _=>ms.length - (intOf i).toNat)
 case atStart=>exact⟨0,none,0,nz,rfl,rfl,fM.nil _ _,br⟩
 case round=>
  obtain⟨k,a,c,hk,rfl,rfl,hO,hW⟩:=hrel;have HO:=hid hO;have HW:=hid (aa fT.out hW);have sN:w.heap.size<wr.heap.size:=lo (by simp) hW.size;have k0:wr.cell? ⟨w.heap.size,0,none⟩=some (.string s.kind):=(hW.cell (p:=⟨w.heap.size,0,none⟩) (by simp)).trans (by simp);have k1:wr.cell? ⟨w.heap.size,1,none⟩=some (.slice (some ⟨fb,0,none⟩) s.fields.length s.fields.length):=(hW.cell (p:=⟨w.heap.size,1,none⟩) (by simp)).trans (by simp);have lZ:=hid hW;clear hO hW;by_cases aw:k<ms.length
  ·have iI:=(HA.out.2.1.later HW.out).at_ k aw;obtain⟨m,gT⟩:∃ m,m=ms.getD k Mnd.none:=⟨_,rfl⟩
   rw[← gT]at iI;have HM:Hid (m=ms.getD k Mnd.none∧m∈ms∧m.sized):=⟨gT,by rw[gT];simp[aw],iI.sized⟩
   have qk:=lo HA.out.2.1.lt HW.out.size;obtain⟨c0,c1,c2,c3,c4,c5,_⟩:=iI;have HS:Hid (dQ s.fields ms s.kind (k+1)=dQ s.fields ms s.kind k++(if bk s.kind m=true then [dY s.fields m] else [])):=by have:=rA s.fields ms s.kind k aw;rw[← gT]at this;exact this
   clear gT;cases heq:(m.kind.toList==s.kind.toList)
   ·have yd:Hid (dQ s.fields ms s.kind (k+1)=dQ s.fields ms s.kind k):=by show dQ _ _ _ _=_;have:=HS.out;rw[show bk s.kind m=false from heq]at this;simpa using this
    clear HS;go_wp2;go_roundw
    case rel=>exact⟨k+1,a,c,by omega,by go_num,by rw[yd.out],by rw[yd.out];exact HO.out.later (ab br _),ab lZ.out _⟩
    case measure=>simp[intOf];omega
   ·have yd:Hid (dQ s.fields ms s.kind (k+1)=dQ s.fields ms s.kind k++[dY s.fields m]):=by show dQ _ _ _ _=_;have:=HS.out;rw[show bk s.kind m=true from heq]at this;simpa using this
    have FG:=hid (HA.out.2.2 m HM.out.2.1 heq);clear HS;have cJ:Bel wr (wr.alloc (.cells #[.string m.kind,.string m.field,.string m.whn,.string m.is_,.string m.put,.string m.frm] 136)):=ab br _;go_wp2_with fail
    refine(xv fb s.fields m _ (HA.out.1.later (aa HW.out cJ)) HM.out.2.2 FG.out.1 FG.out.2.1 FG.out.2.2).mono ?_;rintro e w2 ⟨⟨a2,n2,FA,rfl,hnd⟩,aA⟩;have bF:=aa cJ aA;obtain⟨xs,Jb,Hx⟩:=HO.out.later bF;obtain⟨nf,xN⟩:∃ nf,nf=(dY s.fields m).field:=⟨_,rfl⟩
    obtain⟨nr,KU⟩:∃ nr,nr=(dY s.fields m).frm:=⟨_,rfl⟩
    rw[← xN,← KU];have HX:Hid (w2.ownsRow (w.heap.size+1) 238 4 (.slice a (dQ s.fields ms s.kind k).length c) (dQ s.fields ms s.kind k).length xs∧(∀ i,i<(dQ s.fields ms s.kind k).length→mS w2 xs (i*4) ((dQ s.fields ms s.kind k).getD i Mng.none))∧fZ w2 0 (.slice a2 n2 FA) (dY s.fields m).needs∧nf=(dY s.fields m).field∧nr=(dY s.fields m).frm):=⟨Jb,Hx,nW hnd nz,xN,KU⟩
    have jU:=hid bF;have hle:=oI s.fields ms s.kind k;obtain⟨L,hL⟩:∃ L,L=dQ s.fields ms s.kind k:=⟨_,rfl⟩
    rw[← hL]at HX yd HO hle ⊢;have AY:=hid hL;have hs2:wr.heap.size<w2.heap.size:=lo (by simp) aA.size;clear aA hnd bF cJ Jb Hx xN KU hL c0 c1 c2 c3 c4 c5 k0 k1 qk;go_wp2_with (at_builtin;refine wpList_append_own _ rfl _ _ 199 rfl (w.heap.size+1) 238 i0 (.agg #[.int .i64 0,.slice none 0 0,.string ByteArray.empty,.int .i64 0]) 4 56 Tryz.underlying199 hi mV jq gR rfl (by decide) (.slice a L.length c) L.length xs rfl ?c0 ⟨w2.heap.size,0,none⟩ 1 1 [.int .i64 (nf:Nat),.slice a2 n2 FA,.string m.put,.int .i64 (nr:Nat)] rfl ?c1 ?c2 ?c3 ?c4 ?c5 ?c6 ?_)
    case c0=>exact cL HX.out.1 (ab br _)
    case c1=>rfl
    case c2=>
     intro j u hj;match j,hj with
     |0,hj=>simp at hj;subst hj;simp[Addr.add]
     |1,hj=>simp at hj;subst hj;simp[Addr.add]
     |2,hj=>simp at hj;subst hj;simp[Addr.add]
     |3,hj=>simp at hj;subst hj;simp[Addr.add]
     |k+4,hj=>simp at hj
    case c3=>intro u hu;simp at hu;rcases hu with rfl|rfl|rfl|rfl<;>rfl
    case c4=>unfold maxLen;omega
    case c5=>omega
    case c6=>simp;omega
    intro v' w3 cE cK _;obtain⟨a3,d3,qS⟩:=ep cE;subst qS;have Gu:Bel w2 (w2.alloc (.cells #[.int .i64 (nf:Nat),.slice a2 n2 FA,.string m.put,.int .i64 (nr:Nat)] 238)):=ab br _;have HN:Hid (fM w3 (w.heap.size+1) (.slice a3 (L.length+1) d3) (L++[dY s.fields m])):=by
     refine uh (w:=w2.alloc (.cells #[.int .i64 (nf:Nat),.slice a2 n2 FA,.string m.put,.int .i64 (nr:Nat)] 238)) (cL HX.out.1 Gu) (fun i hi=>(HX.out.2.1 i hi).later Gu) (cL HX.out.2.2.1 Gu) ?_ cK;rw[← HX.out.2.2.2.1,← HX.out.2.2.2.2];exact cE
    have gq:Hid (Below (w.alloc (.cells #[.string s.kind,.slice (some ⟨fb,0,none⟩) s.fields.length s.fields.length] 134)).heap.size (w.alloc (.cells #[.string s.kind,.slice (some ⟨fb,0,none⟩) s.fields.length s.fields.length] 134)) w3):=by
     refine Below.grown (aa (aa lZ.out jU.out) Gu) cK (aa (aa lZ.out jU.out) Gu).size (fun q hq=> ?_);have:=(World.ownsRow.lt HX.out.1 q hq).1;simpa using this
    clear cE cK Gu HX;go_wp2;go_roundw
    case rel=>exact⟨k+1,a3,d3,by omega,by go_num,by rw[yd.out,List.length_append];rfl,by rw[yd.out];exact HN.out,gq.out⟩
    case measure=>simp[intOf];omega
  ·have HE:Hid (dQ s.fields ms s.kind k=bx s.fields ms s.kind):=nj _ _ _ _ (by omega);go_wp2;go_ret;refine⟨⟨a,_,c,rfl, ?_⟩,HW.out⟩;obtain⟨xs,x1,x2⟩:=HO.out;rw[← HE.out];exact⟨xs,nW x1 (by omega),x2⟩
set_option maxRecDepth 8000
set_option maxHeartbeats 40000000
open Go.RowKit Go.Deep
def di (x:Mng):List Nat:=x.needs.map kS.place
def im (L:List Mng) (p k:Nat):List Nat:=(L.take k).flatMap fun x=>if x.field=p then di x else []
def gM (L:List Mng) (p:Nat):List Nat:=L.flatMap fun x=>if x.field=p then di x else []
theorem pU (L:List Mng) (p k:Nat) (hk:k<L.length):im L p (k+1)=im L p k++(if (L.getD k Mng.none).field=p then di (L.getD k Mng.none) else []):=by
 have e:L.getD k Mng.none=L[k]:=by simp[hk]
 unfold im;rw[e,List.take_succ_eq_append_getElem hk,List.flatMap_append];simp
theorem yI (L:List Mng) (p k:Nat) (hk:L.length≤k):im L p k=gM L p:=by unfold im gM;rw[List.take_of_length_le hk]
theorem rD (L:List Mng) (p:Nat) (h2:∀ x∈L,x.needs.length≤2):∀ k,(im L p k).length≤2*k
 |0=>by simp[im]
 |k+1=>by
  have ih:=rD L p h2 k;by_cases hk:k<L.length
  ·rw[pU L p k hk,List.length_append];have hm:L.getD k Mng.none∈L:=by simp[hk]
   obtain⟨y,hy⟩:∃ y,y=L.getD k Mng.none:=⟨_,rfl⟩
   rw[← hy]at hm ⊢;have:=h2 _ hm;split
   ·simp[di];omega
   ·simp;omega
  ·have e:im L p (k+1)=im L p k:=by unfold im;rw[List.take_of_length_le (by omega),List.take_of_length_le (by omega)]
   rw[e];omega
def iJ (w:World) (v:Value) (ns:List kS):Prop:=
 (ns=[]∧∃ a c,v=.slice a 0 c)∨∃ g c,v=.slice (some ⟨g,0,none⟩) ns.length c∧g<w.heap.size∧∀ i,i<ns.length→
  w.cell? ⟨g,i*3,none⟩=some (.int .i64 ((ns.getD i ⟨0,false,ByteArray.empty⟩).place:Nat))∧w.cell? ⟨g,i*3+1,none⟩=some (.bool (ns.getD i ⟨0,false,ByteArray.empty⟩).anyth)∧w.cell? ⟨g,i*3+2,none⟩=some (.string (ns.getD i ⟨0,false,ByteArray.empty⟩).is_)
theorem fZ.at_ {w:World} {lo:Nat} {v:Value} {ns:List kS} (h:fZ w lo v ns):iJ w v ns:=by
 have bS:∀ g,v.ownBlock=some g→∀ j u,(dv ns)[j]? =some u→w.cell? ((⟨g,0,none⟩:Addr).add j)=some u:=fun g hg=>World.ownsRow.cells h hg;rcases h.2 with⟨rfl,hn⟩|⟨g,cap,cur,rfl,_,hg,_⟩
 ·exact Or.inl ⟨List.length_eq_zero_iff.1 hn,_,_,rfl⟩
 ·refine Or.inr ⟨g,cap,rfl,(Array.getElem?_eq_some_iff.1 hg).1,fun i hi=> ?_⟩;have q:∀ j u,j<3→(aZ (ns.getD i ⟨0,false,ByteArray.empty⟩))[j]? =some u→w.cell? ⟨g,i*3+j,none⟩=some u:=by
   intro j u hj hu;have:=bS g rfl (i*3+j) u (by rw[kQ ns i j hi hj];exact hu);rw[Addr.add_lit,Nat.zero_add]at this;exact this
  exact⟨q 0 _ (by omega) rfl,q 1 _ (by omega) rfl,q 2 _ (by omega) rfl⟩
theorem iJ.later {w w':World} {v:Value} {ns:List kS} (h:iJ w v ns) (hb:Bel w w'):iJ w' v ns:=by
 rcases h with h|⟨g,c,rfl,h1,h2⟩
 ·exact Or.inl h
 ·exact Or.inr ⟨g,c,rfl,lo h1 hb.size,fun i hi=>⟨(hb.cell (p:=⟨g,_,none⟩) h1).trans (h2 i hi).1,(hb.cell (p:=⟨g,_,none⟩) h1).trans (h2 i hi).2.1,(hb.cell (p:=⟨g,_,none⟩) h1).trans (h2 i hi).2.2⟩⟩
structure ri (w:World) (g o:Nat) (x:Mng) (a:Option Addr) (c:Nat):Prop where
 c0:w.cell? ⟨g,o,none⟩=some (.int .i64 (x.field:Nat))
 c1:w.cell? ⟨g,o+1,none⟩=some (.slice a x.needs.length c)
 c2:w.cell? ⟨g,o+2,none⟩=some (.string x.put)
 c3:w.cell? ⟨g,o+3,none⟩=some (.int .i64 (x.frm:Nat))
 needs:iJ w (.slice a x.needs.length c) x.needs
theorem ri.later {w w':World} {g o:Nat} {x:Mng} {a:Option Addr} {c:Nat} (h:ri w g o x a c) (hb:Bel w w') (aw:g<w.heap.size):ri w' g o x a c:=by
 have q:∀ j,w'.cell? ⟨g,j,none⟩=w.cell? ⟨g,j,none⟩:=fun j=>hb.cell (p:=⟨g,j,none⟩) aw;exact⟨(q _).trans h.c0,(q _).trans h.c1,(q _).trans h.c2,(q _).trans h.c3,h.needs.later hb⟩
def fg (w:World) (v:Value) (L:List Mng):Prop:=
 (L=[]∧∃ a c,v=.slice a 0 c)∨∃ g c,v=.slice (some ⟨g,0,none⟩) L.length c∧g<w.heap.size∧∀ i,i<L.length→∃ a d,ri w g (i*4) (L.getD i Mng.none) a d
theorem fg.later {w w':World} {v:Value} {L:List Mng} (h:fg w v L) (hb:Bel w w'):fg w' v L:=by
 rcases h with h|⟨g,c,rfl,h1,h2⟩
 ·exact Or.inl h
 ·refine Or.inr ⟨g,c,rfl,lo h1 hb.size,fun i hi=> ?_⟩;obtain⟨a,d,h3⟩:=h2 i hi;exact⟨a,d,h3.later hb h1⟩
theorem fM.at_ {w:World} {lo:Nat} {v:Value} {L:List Mng} (h:fM w lo v L):fg w v L:=by
 obtain⟨xs,h1,h2⟩:=h;have bS:∀ g,v.ownBlock=some g→∀ j u,xs[j]? =some u→w.cell? ((⟨g,0,none⟩:Addr).add j)=some u:=fun g hg=>World.ownsRow.cells h1 hg;rcases h1.2 with⟨rfl,hn⟩|⟨g,cap,cur,rfl,_,hg,_⟩
 ·exact Or.inl ⟨List.length_eq_zero_iff.1 hn,_,_,rfl⟩
 ·refine Or.inr ⟨g,cap,rfl,(Array.getElem?_eq_some_iff.1 hg).1,fun i hi=> ?_⟩;obtain⟨a,c,q0,q1,q2,q3,q4⟩:=h2 i hi;have q:∀ j u,xs[j]? =some u→w.cell? ⟨g,j,none⟩=some u:=by
   intro j u hu;have:=bS g rfl j u hu;rw[Addr.add_lit,Nat.zero_add]at this;exact this
  exact⟨a,c,q _ _ q0,q _ _ q1,q _ _ q2,q _ _ q3,q4.at_⟩
theorem ga.later {w w':World} {lo:Nat} {v:Value} {l:List Nat} (h:ga w lo v l) (hb:Bel w w'):ga w' lo v l:=cL h hb
theorem tE (mb g cap p:Nat) (L:List Mng) (w:World) (hc:w.cell? ⟨mb,0,none⟩=some (.slice (some ⟨g,0,none⟩) L.length cap)) (hg:g<w.heap.size) (hL:∀ i,i<L.length→∃ a d,ri w g (i*4) (L.getD i Mng.none) a d) (hl:L.length≤12) (h2:∀ x∈L,x.needs.length≤2):
  Calls Tryz.prog 175 #[.int .i64 (p:Nat),.pointer (some ⟨mb,0,none⟩)] w fun e w'=>(∃ a n c,e=.returned (.slice a n c)∧dp w' (.slice a n c) (gM L p))∧Bel w w':=by
 have HL:=hid (And.intro hL h2);obtain⟨i0,hi,mV,jq,gR⟩:=info_parts Tryz.yX;clear hL h2;go_enter Tryz.func175,Tryz.ntmps175
 go_wp2;clear hc;go_loopw [4,11] (fun v i wr=>∃ (k:Nat) (a:Option Addr) (c:Nat),k≤L.length∧i=.int .i64 k∧v=.slice a (im L p k).length c∧ga wr w.heap.size v (im L p k)∧Bel w wr) (fun _ i _=>L.length - (intOf i).toNat)
 case atStart=>exact⟨0,none,0,nz,rfl,rfl,World.ownsRow_nil _ _ _ _,br⟩
 case round=>
  obtain⟨k,a,c,hk,rfl,rfl,hO,hW⟩:=hrel;have HO:=hid hO;have HW:=hid hW;have HT:=hid (rD L p HL.out.2 k);clear hO;by_cases aw:k<L.length
  ·obtain⟨ax,dx,JA⟩:=HL.out.1 k aw;obtain⟨x,IM⟩:∃ x,x=L.getD k Mng.none:=⟨_,rfl⟩
   rw[← IM]at JA;have hx:=JA.later hW hg;have HX:=hid (And.intro IM (HL.out.2 x (by rw[IM];simp[aw])));have HS:Hid (im L p (k+1)=im L p k++(if x.field=p then di x else [])):=by have:=pU L p k aw;rw[← IM]at this;exact this
   have Bq:=lo hg hW.size;obtain⟨c0,c1,c2,c3,_⟩:=hx;have K3:=hid JA.needs;clear IM JA hW;by_cases heq:(x.field:Int)=(p:Int)
   ·have yd:Hid (im L p (k+1)=im L p k++di x):=by have:=HS.out;rw[if_pos (by omega)]at this;exact this
    clear HS;have Gn:=HX.out.2;go_wp2;clear c0 c1 c2 c3;obtain⟨l,hll⟩:∃ l,l=im L p k:=⟨_,rfl⟩
    rw[← hll]at yd HO HT ⊢;clear hll;go_loopw [4,22] (fun v i wq=>∃ (j:Nat) (a:Option Addr) (c:Nat),j≤x.needs.length∧i=.int .i64 j∧v=.slice a (l++(di x).take j).length c∧ga wq w.heap.size v (l++(di x).take j)∧Bel w wq) (fun _ i _=>x.needs.length - (intOf i).toNat)
    case atStart=>exact⟨0,a,c,nz,rfl,by simp,by simpa using HO.out.later (ab br _),ab HW.out _⟩
    case round=>
     obtain⟨j,aj,cj,hj,rfl,rfl,hOj,Bo⟩:=hrel;rename World=>wq;have Ii:=hid hOj;have vK:=hid Bo;have HTj:Hid ((l++(di x).take j).length≤2*k+2):=by show (l++(di x).take j).length≤2*k+2;have:=HT.out;rw[List.length_append,List.length_take];simp[di];omega
     clear hOj;by_cases pa:j<x.needs.length
     ·rcases K3.out with⟨e0,_⟩|⟨g2,c2,e0,vJ,bS⟩
      ·rw[e0]at pa;exact absurd pa (Nat.not_lt_zero j)
      injection e0 with e1 e2 e3
      subst e1 e3;obtain⟨d0,d1,d2⟩:=bS j pa;have d0:=(Bo.cell (p:=⟨g2,j*3,none⟩) vJ).trans d0;have d1:=(Bo.cell (p:=⟨g2,j*3+1,none⟩) vJ).trans d1;have d2:=(Bo.cell (p:=⟨g2,j*3+2,none⟩) vJ).trans d2;obtain⟨y,hy⟩:∃ y,y=x.needs.getD j ⟨0,false,ByteArray.empty⟩:=⟨_,rfl⟩
      rw[← hy]at d0 d1 d2;have hgq:=lo vJ Bo.size;have HP:Hid (l++(di x).take (j+1)=(l++(di x).take j)++[y.place]):=by
       show l++(di x).take (j+1)=(l++(di x).take j)++[y.place]
       have hjp:j<(di x).length:=by simpa [di]using pa
       rw[List.take_succ_eq_append_getElem hjp,← List.append_assoc];congr 2;simp[di,hy,pa]
      obtain⟨lj,hlj⟩:∃ lj,lj=l++(di x).take j:=⟨_,rfl⟩
      rw[← hlj]at HP Ii HTj ⊢;have hlen:=HTj.out;have lZ:=hid vK.out;have eQ:=lZ.out.size;clear hlj hy bS Bo;go_wp2_with (at_builtin;refine wpList_append_own _ rfl _ _ 98 rfl w.heap.size 3 i0 (.int .i64 0) 1 8 Tryz.underlying98 hi mV jq gR rfl (by decide) (.slice aj lj.length cj) lj.length (lj.map fun n=>Value.int .i64 (n:Nat)) rfl ?c0 ⟨wq.heap.size+1,0,none⟩ 1 1 [.int .i64 (y.place:Nat)] rfl ?c1 ?c2 ?c3 ?c4 ?c5 ?c6 ?_)
      case c0=>exact Ii.out.later (ab (ab br _) _)
      case c3=>rfl
      case c4=>unfold maxLen;omega
      case c5=>omega
      case c6=>omega
      intro v' w3 cE cK _;obtain⟨a3,d3,qS⟩:=ep cE;subst qS;have HN:Hid (ga w3 w.heap.size (.slice a3 (lj.length+1) d3) (lj++[y.place])):=by
       show w3.ownsRow _ _ _ _ _ _;rw[List.length_append,List.map_append];exact cE
      have gq:Hid (Bel w w3):=Below.grown (ab (ab vK.out _) _) cK (ab (ab vK.out _) _).size (fun q hq=>(World.ownsRow.lt Ii.out q hq).1);clear cE cK;go_wp2;go_roundw
      case rel=>exact⟨j+1,a3,d3,by omega,by go_num,by rw[HP.out,List.length_append];rfl,by rw[HP.out];exact HN.out,gq.out⟩
      case measure=>simp[intOf];omega
     ·have HE:Hid (im L p (k+1)=l++(di x).take j):=by
       show im L p (k+1)=_;rw[yd.out,List.take_of_length_le (by simp[di];omega)]
      go_wp2;go_roundw
      case rel=>first|exact⟨k+1,aj,cj,by omega,by go_num,by rw[HE.out],by rw[HE.out];exact Ii.out,vK.out⟩|((repeat apply Exists.intro);exact⟨⟨k+1,aj,cj,by omega,by go_num,by rw[HE.out],by rw[HE.out];exact Ii.out,vK.out⟩,rfl⟩)
      case measure=>simp[intOf];omega
   ·have yd:Hid (im L p (k+1)=im L p k):=by show im _ _ _=_;have:=HS.out;rw[if_neg (by omega)]at this;simpa using this
    clear HS;go_wp2;go_roundw
    case rel=>exact⟨k+1,a,c,by omega,by go_num,by rw[yd.out],by rw[yd.out];exact HO.out.later (ab br _),ab HW.out _⟩
    case measure=>simp[intOf];omega
  ·have HE:Hid (im L p k=gM L p):=yI _ _ _ (by omega);go_wp2;go_ret;refine⟨⟨a,_,c,rfl, ?_⟩,HW.out⟩;rw[← HE.out];exact HO.out.at_ (by have:=HT.out;omega)
theorem s7 (mb p:Nat) (a:Option Addr) (c:Nat) (w:World) (hc:w.cell? ⟨mb,0,none⟩=some (.slice a 0 c)):
  Calls Tryz.prog 175 #[.int .i64 (p:Nat),.pointer (some ⟨mb,0,none⟩)] w fun e w'=>e=.returned (.slice none 0 0)∧w=w':=by
 go_enter Tryz.func175,Tryz.ntmps175
 go_wp2;refine wp_loop_rounds 1 ?_;rw[rounds_succ];go_wp2;go_ret;exact⟨rfl,rfl⟩
theorem Ea (mb p:Nat) (v:Value) (L:List Mng) (w:World) (hc:w.cell? ⟨mb,0,none⟩=some v) (h:fg w v L) (hl:L.length≤12) (h2:∀ x∈L,x.needs.length≤2):
  Calls Tryz.prog 175 #[.int .i64 (p:Nat),.pointer (some ⟨mb,0,none⟩)] w fun e w'=>(∃ a n c,e=.returned (.slice a n c)∧dp w' (.slice a n c) (gM L p))∧Bel w w':=by
 rcases h with⟨rfl,a,c,rfl⟩|⟨g,c,rfl,h1,h3⟩
 ·refine(s7 mb p a c w hc).mono ?_;rintro e w' ⟨rfl,rfl⟩;exact⟨⟨_,_,_,rfl,Or.inl ⟨rfl,_,_,rfl⟩⟩,br⟩
 ·exact tE mb g c p L w hc h1 h3 hl h2
theorem xj (n:Nat) (h:n≤1048576) (W:World):
  (Instr.makeSlice 98 (.int .i64 (n:Int)) (.int .i64 (n:Int))).run Tryz.prog W=.ok (.slice (some ⟨W.heap.size,0,none⟩) n n) (W.alloc (.cells (madeCells #[.int .i64 0] n) 3)):=
 run_make_row' 98 3 (.int .i64 0) 8 Tryz.underlying98 Tryz.yX rfl .i64 .i64 n (by omega) (by omega) W
theorem Ae (cs:Array Value) (n k:Nat) (eQ:cs.size=n) (hk:k<n) (h:∀ j,j<k→cs[j]? =some (.int .i64 (j:Nat))):
  (cs.setIfInBounds k (.int .i64 (k:Nat))).size=n∧∀ j,j<k+1→(cs.setIfInBounds k (.int .i64 (k:Nat)))[j]? =some (.int .i64 (j:Nat)):=by
 refine⟨by simpa using eQ,fun j hj=> ?_⟩;rw[Array.getElem?_setIfInBounds];by_cases e:k=j
 ·subst e;rw[if_pos rfl,if_pos (by omega)]
 ·rw[if_neg e];exact h j (by omega)
set_option maxRecDepth 8000
set_option maxHeartbeats 40000000
open Go.RowKit Go.Deep
theorem sC (K:ByteArray) (n:Nat) (af:Option Addr) (cf:Nat) (a:Option Addr) (q c:Nat) (L:List Mng) (w:World) (hn:n≤1048576) (h:fg w (.slice a q c) L) (hl:L.length≤12) (h2:∀ x∈L,x.needs.length≤2):
  Calls Tryz.prog 134 #[.agg #[.string K,.slice af n cf],.slice a q c] w fun e w'=>(∃ a k d,e=.returned (.tuple #[.slice a k d,.bool (ib (gM L) n)])∧(ib (gM L) n=true→dp w' (.slice a k d) (cn (gM L) n n)))∧Bel w w':=by
 have HH:=hid (And.intro h (And.intro hl h2));have iI:=xj n hn;clear h hl h2;go_enter Tryz.func134,Tryz.ntmps134
 go_wp2;obtain⟨wb,nc⟩:∃ wb,wb=(w.alloc (.cells #[.string K,.slice af n cf] 134)).alloc (.cells #[.slice a q c] 199):=⟨_,rfl⟩
 have Li:wb.heap.size=w.heap.size+1+1:=by rw[nc];simp
 have fT:Hid (Bel w wb):=by show Below _ _ _;rw[nc];exact ab (ab br _) _
 have qU:Hid (wb.cell? ⟨w.heap.size+1,0,none⟩=some (.slice a q c)):=by show wb.cell? _=_;rw[nc];simp
 rw[← Li,← nc];have JM:=hid Li;clear nc Li;go_loopw [14] (fun i wr=>∃ (k:Nat) (cs:Array Value),k≤n∧i=.int .i64 k∧wr=wb.alloc (.cells cs 3)∧cs.size=n∧∀ j,j<k→cs[j]? =some (.int .i64 (j:Nat))) (fun i _=>n - (intOf i).toNat)
 case atStart=>exact⟨0,_,nz,rfl,rfl,size_madeCells _ _,fun j hj=>absurd hj (Nat.not_lt_zero j)⟩
 case round=>
  obtain⟨k,cs,hk,rfl,rfl,eQ,av⟩:=hrel;have HA:=hid (And.intro eQ av);clear av eQ iI;by_cases aw:k<n
  ·obtain⟨v,hv⟩:∃ v,cs[k]? =some v:=⟨_,Array.getElem?_eq_getElem (by rw[HA.out.1];exact aw)⟩
   have HP:=Ae cs n k HA.out.1 aw HA.out.2;have HP':=hid HP;clear HP;go_wp2;go_roundw
   case rel=>exact⟨k+1,_,by omega,by go_num,rfl,HP'.out.1,HP'.out.2⟩
   case measure=>simp[intOf];omega
  ·obtain rfl:k=n:=by omega
   have u7:Bel w (wb.alloc (.cells cs 3)):=ab fT.out _;have HX:Hid (Calls Tryz.prog 174 #[.slice (some ⟨wb.heap.size,0,none⟩) k k,.func (.func 175) #[] #[.pointer (some ⟨w.heap.size+1,0,none⟩)]] (wb.alloc (.cells cs 3)) fun e w'=>(∃ a j d,e=.returned (.tuple #[.slice a j d,.bool (ib (gM L) k)])∧(ib (gM L) k=true→dp w' (.slice a j d) (cn (gM L) k k)))∧Below (wb.alloc (.cells cs 3)).heap.size (wb.alloc (.cells cs 3)) w'):=by
    refine J6 wb.heap.size k (w.heap.size+1) k (gM L) (wb.alloc (.cells cs 3)) hn (by simp) (fun i hi=> ?_) (fun x W _ hW=> ?_)
    ·rw[World.cell?_alloc_new];exact HA.out.2 i hi
    have dC:Bel wb W:=aa (ab br _) hW;exact Ea (w.heap.size+1) x (.slice a q c) L W ((dC.cell (p:=⟨w.heap.size+1,0,none⟩) (by have:=JM.out;show w.heap.size+1<_;omega)).trans qU.out) (HH.out.1.later (aa fT.out dC)) HH.out.2.1 HH.out.2.2
   go_wp2_with fail
   refine HX.out.mono ?_;rintro e w3 ⟨⟨a3,k3,d3,rfl,EO⟩,aQ⟩;have eW:=aa u7 aQ;have Gt:=hid EO;obtain⟨R,hR⟩:∃ R,R=ib (gM L) k:=⟨_,rfl⟩
   rw[← hR]at Gt ⊢;have fA:=hid hR;clear aQ EO hR;go_wp2;go_ret2;exact⟨⟨a3,k3,d3,by rw[← fA.out];rfl,by rw[← fA.out];exact Gt.out⟩,eW⟩
end Go.Proofs.YtbiokpmdghmgcaaGreat
namespace Go.Proofs.YtbiokpmdghmgcaaGreat
open Go.RowKit Go.Deep
theorem su:∀ x:List UInt8,Op.bytesLess x x=false
 |[]=>rfl
 |a::x=>by
  have:=su x;simp[Op.bytesLess,this]
theorem nv:∀ x y z:List UInt8,Op.bytesLess x y=true→Op.bytesLess y z=true→Op.bytesLess x z=true
 |_,[],_,h,_=>by simp[Op.bytesLess]at h
 |_,_::_,[],_,h=>by simp[Op.bytesLess]at h
 |[],_::_,_::_,_,_=>by simp[Op.bytesLess]
 |a::x,b::y,c::z,h1,h2=>by
  have ih:=nv x y z;simp only[Op.bytesLess,Bool.or_eq_true,Bool.and_eq_true,decide_eq_true_eq,beq_iff_eq]at h1 h2 ⊢;rcases h1 with h1|⟨rfl,h1⟩
  ·rcases h2 with h2|⟨rfl,h2⟩
   ·exact Or.inl (UInt8.lt_trans h1 h2)
   ·exact Or.inl h1
  ·rcases h2 with h2|⟨rfl,h2⟩
   ·exact Or.inl h2
   ·exact Or.inr ⟨rfl,ih h1 h2⟩
theorem n7 {ss:List Shp} (h:aM ss=true) (i:Nat):∀ d,i+d+1<ss.length→Pl.less (ss.getD i Shp.none).kind (ss.getD (i+d+1) Shp.none).kind=true
 |0,hl=>by
  have:=lh h (i:=i+1) (by omega);unfold dH at this;have h1:=((Bool.and_eq_true _ _).mp ((Bool.and_eq_true _ _).mp this).1).2;simpa using h1
 |d+1,hl=>by
  have ih:=n7 h i d (by omega);have:=lh h (i:=i+(d+1)+1) (by omega);unfold dH at this;have h1:=((Bool.and_eq_true _ _).mp ((Bool.and_eq_true _ _).mp this).1).2;have h2:Pl.less (ss.getD (i+d+1) Shp.none).kind (ss.getD (i+(d+1)+1) Shp.none).kind=true:=by
   simpa [show i+(d+1)+1 - 1=i+d+1 by omega]using h1
  exact nv _ _ _ ih h2
theorem mF {ss:List Shp} (h:aM ss=true) {i:Nat} (hi:i<ss.length) {k:ByteArray} (hk:(k.toList==(ss.getD i Shp.none).kind.toList)=true):aB ss k=i:=by
 rw[beq_iff_eq]at hk;have hle:aB ss k≤i:=by
  unfold aB;exact Nat.le_of_not_lt fun aw=>by
   have:=List.not_of_lt_findIdx aw;have e:ss.getD i Shp.none=ss[i]:=by simp[hi]
   rw[e]at hk;simp[hk]at this
 by_cases hq:aB ss k=i
 ·exact hq
 exfalso;have aw:aB ss k<ss.length:=by omega
 have h1:((ss.getD (aB ss k) Shp.none).kind.toList==k.toList)=true:=by
  have e:ss.getD (aB ss k) Shp.none=ss[aB ss k]:=by simp[aw]
  rw[e];exact List.findIdx_getElem (xs:=ss) (p:=fun s:Shp=>s.kind.toList==k.toList) (w:=aw)
 rw[beq_iff_eq]at h1;have h2:=n7 h (aB ss k) (i - aB ss k - 1) (by omega);rw[show aB ss k+(i - aB ss k - 1)+1=i by omega]at h2;unfold Pl.less at h2;rw[h1,hk,su]at h2;cases h2
theorem fP {ss:List Shp} {fs:List Fld} (h:aG ss fs=true) {i:Nat} (hi:i<fs.length):nameAt fs (fs.getD i Fld.none).nm=i:=by
 have:=nH h hi;unfold fieldAt at this;have h2:=((Bool.and_eq_true _ _).mp this).2;rw[lK fs i hi]at h2;have hle:=pX fs i hi;simp at h2;have:nameAt fs (fs.getD i Fld.none).nm=nameAt fs (fs[i]?.getD Fld.none).nm:=by simp
 omega
theorem mq {fs:List Fld} {a b:ByteArray} (h:a.toList=b.toList):nameAt fs a=nameAt fs b:=by unfold nameAt;rw[h]
def cC (fs:List Fld) (p:Nat):ByteArray:=(fs.getD p Fld.none).nm
theorem qn {ss:List Shp} {fs:List Fld} (h:aG ss fs=true) {row:List Nat} (hr:∀ p∈row,p<fs.length) {k:ByteArray} (hk:nameAt fs k<fs.length):Pl.has (row.map (cC fs)) k=ey row (nameAt fs k):=by
 unfold Pl.has ey;rw[Bool.eq_iff_iff,List.any_eq_true,List.contains_iff_mem];constructor
 ·rintro⟨x,hx,he⟩;rw[List.mem_map]at hx;obtain⟨p,hp,rfl⟩:=hx;rw[beq_iff_eq]at he;have h1:=fP h (hr p hp);have h2:=mq (fs:=fs) he;unfold cC at h2;rw[h1]at h2;rw[← h2];exact hp
 ·intro hm;exact⟨_,List.mem_map.2 ⟨_,hm,rfl⟩,mr hk⟩
theorem mm {α:Type} (d:α) (p:α→Bool) (l:List α):((List.range l.length).all fun i=>p (l.getD i d))=l.all p:=by
 rw[Bool.eq_iff_iff,List.all_eq_true,List.all_eq_true];constructor
 ·intro h x hx;obtain⟨i,hi,rfl⟩:=List.getElem_of_mem hx;have:=h i (List.mem_range.2 hi);simpa [hi]using this
 ·intro h i hi;have AU:=List.mem_range.1 hi;have:l.getD i d=l[i]:=by simp[AU]
  rw[this];exact h _ (List.getElem_mem AU)
theorem xk (fs:List Fld) (m:Mnd) (ms:List Mnd) (K:ByteArray) (i:Nat):gM (bx fs (m::ms) K) i=(if (bk K m&&decide (nameAt fs m.field=i))=true then (dU fs m).map kS.place else [])++gM (bx fs ms K) i:=by
 unfold gM bx;cases h:bk K m
 ·simp[h]
 ·simp[h,dY,di]
theorem rT {ss:List Shp} {fs:List Fld} (h:aG ss fs=true) {row:List Nat} (hr:∀ p∈row,p<fs.length) (K:ByteArray) {i:Nat} (hi:i<fs.length):
  ∀ ms:List Mnd,(∀ m∈ms,bk K m=true→found fs m)→ms.all (gY K (cC fs i) (row.map (cC fs)))= !(gM (bx fs ms K) i).any (fun y=> !ey row y)
 |[],_=>by simp[gM,bx]
 |m::ms,hf=>by
  have ih:=rT h hr K hi ms (fun m' hm'=>hf m' (List.mem_cons_of_mem _ hm'));rw[List.all_cons,ih,xk,List.any_append,Bool.not_or];congr 1;unfold gY;cases hk:bk K m
  ·have Jj:(m.kind.toList==K.toList)=false:=hk;rw[Jj];simp
  ·have Jj:(m.kind.toList==K.toList)=true:=hk;obtain⟨f1,f2,f3⟩:=hf m (List.mem_cons_self ..) hk;have J4:(m.field.toList==(cC fs i).toList)=decide (nameAt fs m.field=i):=by
    rw[Bool.eq_iff_iff,beq_iff_eq,decide_eq_true_eq];constructor
    ·intro e;have:=mq (fs:=fs) e;rw[this];exact fP h hi
    ·intro e;have:=mr f1;rw[beq_iff_eq,e]at this;exact this.symm
   rw[Jj,J4];by_cases he:nameAt fs m.field=i
   ·simp only[he,decide_true,Bool.and_true,if_true,Bool.not_true,Bool.false_or];have n1:pA (row.map (cC fs)) m.whn=(Pl.aE m.whn||ey row (nameAt fs m.whn)):=by
     unfold pA;cases hw:Pl.aE m.whn
     ·rw[qn h hr (f2 hw)]
     ·rfl
    have n2:pA (row.map (cC fs)) m.frm=(Pl.aE m.frm||ey row (nameAt fs m.frm)):=by
     unfold pA;cases hw:Pl.aE m.frm
     ·rw[qn h hr (f3 hw)]
     ·rfl
    rw[n1,n2];unfold dU;cases hw:Pl.aE m.whn<;>cases hq:Pl.aE m.frm<;>simp
   ·simp[he]
theorem kx (rd:Nat→List Nat) (n:Nat):∀ j,∀ p∈cn rd n j,p<n
 |0,p,h=>by simp[cn]at h
 |j+1,p,h=>by
  rw[cn]at h;split at h
  ·rename_i hl
   rw[List.mem_append,List.mem_singleton]at h;rcases h with h|rfl
   ·exact kx rd n j p h
   ·exact hl
  ·exact kx rd n j p h
def rdM (fs:List Fld) (ms:List Mnd) (K:ByteArray):Nat→List Nat:=gM (bx fs ms K)
def fL (ms:List Mnd) (s:Shp):Bool:=ib (rdM s.fields ms s.kind) s.fields.length
def eO (ss:List Shp) (ms:List Mnd) (k:Nat):Bool:=(List.range k).all fun i=>bN ss (ms.getD i Mnd.none)
def gL (ss:List Shp) (ms:List Mnd) (k:Nat):Bool:=(List.range k).all fun i=>fL ms (ss.getD i Shp.none)
def aO (ss:List Shp) (ms:List Mnd):Bool:=aM ss&&decide (ms.length≤12)&&eO ss ms ms.length&&gL ss ms ss.length
theorem sj {ss:List Shp} {fs:List Fld} (h:aG ss fs=true) (ms:List Mnd) (K:ByteArray) (hf:∀ m∈ms,bk K m=true→found fs m) {row:List Nat} (hr:∀ p∈row,p<fs.length) {i:Nat} (hi:i<fs.length):
  (!Pl.has (row.map (cC fs)) (cC fs i)&&iv ms K (cC fs i) (row.map (cC fs)))=i7 (rdM fs ms K) row i:=by
 unfold i7 iv rdM;rw[mm,rT h hr K hi ms hf];have e:nameAt fs (cC fs i)=i:=fP h hi;rw[qn h hr (by rw[e];exact hi),e]
theorem lD {ss:List Shp} {ms:List Mnd} (h:aM ss=true) (hm:eO ss ms ms.length=true) {i:Nat} (hi:i<ss.length):∀ m∈ms,bk (ss.getD i Shp.none).kind m=true→found (ss.getD i Shp.none).fields m:=by
 intro m gT hk;unfold eO at hm;rw[mm,List.all_eq_true]at hm;have h1:=hm m gT;unfold bN at h1;have LQ:=mF h hi hk;rw[LQ]at h1;have h2:=((Bool.and_eq_true _ _).mp h1).2;unfold aL at h2;simp only[Bool.and_eq_true]at h2;obtain⟨⟨⟨⟨p1,_⟩,p3⟩,p4⟩,_⟩:=h2;refine⟨jk p1,fun hw=> ?_,fun hw=> ?_⟩
 ·unfold eP at p3;rw[hw]at p3;simp only[Bool.false_or,Bool.and_eq_true]at p3;exact jk p3.2
 ·unfold eP at p4;rw[hw]at p4;simp only[Bool.false_or,Bool.and_eq_true]at p4;exact jk p4.2
end Go.Proofs.YtbiokpmdghmgcaaGreat
namespace Go.Proofs.YtbiokpmdghmgcaaGreat
set_option maxRecDepth 8000
set_option maxHeartbeats 40000000
open Go.RowKit Go.Deep
def dj (w:World) (lo:Nat) (v:Value) (l:List ByteArray):Prop:=(∃ g c,v=.slice (some ⟨g,0,none⟩) l.length c)∧w.ownsRow lo 9 1 v l.length (l.map Value.string)
theorem dj.later {w w':World} {lo:Nat} {v:Value} {l:List ByteArray} (h:dj w lo v l) (hb:Bel w w'):dj w' lo v l:=⟨h.1,cL h.2 hb⟩
theorem dj.at_ {w:World} {lo:Nat} {v:Value} {l:List ByteArray} (h:dj w lo v l) (hl:l.length≤1048576):fe w v l:=by
 obtain⟨⟨g,c,rfl⟩,ho⟩:=h;have bS:∀ j u,(l.map Value.string)[j]? =some u→w.cell? ((⟨g,0,none⟩:Addr).add j)=some u:=World.ownsRow.cells ho rfl;refine⟨g,c,rfl,(World.ownsRow.lt ho g rfl).2,hl,fun i hi=> ?_⟩;have:=bS i (.string (l.getD i ByteArray.empty)) (by simp[hi]);rw[Addr.add_lit,Nat.zero_add]at this;exact this
theorem dj.start (w:World) (lo:Nat) (hl:lo≤w.heap.size):dj (w.alloc (.cells #[] 9)) lo (.slice (some ⟨w.heap.size,0,none⟩) 0 0) []:=
 ⟨⟨_,_,rfl⟩,World.ownsRow_made w #[] 0 hl (by decide) (by simp)⟩
theorem dj.of {w:World} {lo:Nat} {v:Value} {l:List ByteArray} (h:w.ownsRow lo 9 1 v l.length (l.map Value.string)) (hl:l.length≠0):dj w lo v l:=by
 refine⟨?_,h⟩;rcases h.2 with⟨_,h0⟩|⟨g,cap,cur,rfl,_⟩
 ·exact absurd h0 hl
 ·exact⟨_,_,rfl⟩
theorem Ew (ss:List Shp) (s:Shp) (fb mb:Nat) (ms:List Mnd) (w:World) (h:bW w fb s.fields) (hm:dy w mb ms) (qj:aG ss s.fields=true) (hf:∀ m∈ms,bk s.kind m=true→found s.fields m):
  Calls Tryz.prog 117 #[.agg #[.string s.kind,.slice (some ⟨fb,0,none⟩) s.fields.length s.fields.length],.slice (some ⟨mb,0,none⟩) ms.length ms.length] w fun e w'=>
   (∃ a c,e=.returned (.slice a (cn (rdM s.fields ms s.kind) s.fields.length s.fields.length).length c)∧fe w' (.slice a (cn (rdM s.fields ms s.kind) s.fields.length s.fields.length).length c) ((cn (rdM s.fields ms s.kind) s.fields.length s.fields.length).map (cC s.fields)))∧Bel w w':=by
 have hl:=hm.len;have E6:=jF qj;have HA:=hid (And.intro h (And.intro hm (And.intro qj hf)));obtain⟨i0,hi,mV,jq,gR⟩:=info_parts Tryz.rO;clear h hm qj hf;obtain⟨rd,Bm⟩:∃ rd,rd=rdM s.fields ms s.kind:=⟨_,rfl⟩
 obtain⟨fs,dV⟩:∃ fs,fs=s.fields:=⟨_,rfl⟩
 have Bn:=hid Bm;rw[← Bm,← dV];rw[← dV]at E6 HA Bn;clear Bm dV;obtain⟨n,hn⟩:∃ n,n=fs.length:=⟨_,rfl⟩
 rw[← hn];rw[← hn]at E6;have FJ:=hid hn;clear hn;obtain⟨wb,nc⟩:∃ wb,wb=w.alloc (.cells #[.string s.kind,.slice (some ⟨fb,0,none⟩) n n] 134):=⟨_,rfl⟩
 have fT:Hid (Bel w wb):=by show Below _ _ _;rw[nc];exact ab br _
 have HK:Hid (wb.heap.size=w.heap.size+1∧wb.cell? ⟨w.heap.size,0,none⟩=some (.string s.kind)∧wb.cell? ⟨w.heap.size,1,none⟩=some (.slice (some ⟨fb,0,none⟩) n n)):=by show _∧_∧_;rw[nc];exact⟨by simp,by simp,by simp⟩
 go_enter Tryz.func117,Tryz.ntmps117
 go_upto_region 1 with fail
 rw[← nc];clear nc;go_wp2;go_loopw [5,6] (fun v i wr=>∃ (j:Nat) (a:Option Addr) (c:Nat),j≤n∧i=.int .i64 j∧v=.slice a (cn rd n j).length c∧dj wr wb.heap.size v ((cn rd n j).map (cC fs))∧Bel wb wr) (fun _ i _=>n - (intOf i).toNat)
 case atStart=>exact⟨0,some ⟨wb.heap.size,0,none⟩,0,nz,rfl,rfl,dj.start wb _ nr,ab br _⟩
 case round=>
  obtain⟨j,a,c,hj,rfl,rfl,hO,hW⟩:=hrel;obtain⟨row,jR⟩:∃ row,row=cn rd n j:=⟨_,rfl⟩
  rw[← jR]at hO ⊢;have HO:=hid hO;have HW:=hid hW;have oZ:=hid jR;have ye:Hid (row.length≤j):=by show row.length≤j;rw[jR];exact jH rd n j
  have sN:w.heap.size<wr.heap.size:=by have:=hW.size;have:=HK.out.1;omega
  have k0:wr.cell? ⟨w.heap.size,0,none⟩=some (.string s.kind):=(hW.cell (p:=⟨w.heap.size,0,none⟩) (by have:=HK.out.1;show w.heap.size<_;omega)).trans HK.out.2.1;have k1:wr.cell? ⟨w.heap.size,1,none⟩=some (.slice (some ⟨fb,0,none⟩) n n):=(hW.cell (p:=⟨w.heap.size,1,none⟩) (by have:=HK.out.1;show w.heap.size<_;omega)).trans HK.out.2.2;clear hO hW jR;by_cases aw:j<n
  ·go_wp2;clear k0 k1 sN;go_loopw [5,7] (fun v i wq=>v=.slice a row.length c∧∃ q:Nat,q≤n∧i=.int .i64 q∧q≤ia rd n row∧Bel wr wq) (fun _ i _=>n - (intOf i).toNat)
   case atStart=>exact⟨rfl,0,nz,rfl,nz,br⟩
   case round=>
    obtain⟨rfl,q,hq,rfl,iH,Fx⟩:=hrel;rename World=>wq;have HN:=hid iH;have kl:=hid Fx;have sK:=hid (aa HW.out Fx);have sN:w.heap.size<wq.heap.size:=by have:=sK.out.size;have:=HK.out.1;omega
    have k0:wq.cell? ⟨w.heap.size,0,none⟩=some (.string s.kind):=(sK.out.cell (p:=⟨w.heap.size,0,none⟩) (by have:=HK.out.1;show w.heap.size<_;omega)).trans HK.out.2.1;have k1:wq.cell? ⟨w.heap.size,1,none⟩=some (.slice (some ⟨fb,0,none⟩) n n):=(sK.out.cell (p:=⟨w.heap.size,1,none⟩) (by have:=HK.out.1;show w.heap.size<_;omega)).trans HK.out.2.2;clear iH Fx;by_cases hqn:q<n
    ·obtain⟨f,fG⟩:∃ f,f=fs.getD q Fld.none:=⟨_,rfl⟩
     obtain⟨b,_,dP⟩:=(HA.out.1.later (aa fT.out sK.out)).arg (by rw[← FJ.out];exact hqn) fG;have c0:=dP.c0;have I4:=(HA.out.1.later (aa fT.out sK.out)).lt;have oT:Hid ((!Pl.has (row.map (cC fs)) f.nm&&iv ms s.kind f.nm (row.map (cC fs)))=i7 rd row q):=by
      have:=sj HA.out.2.2.1 ms s.kind HA.out.2.2.2 (row:=row) (fun p hp=>by rw[oZ.out]at hp;rw[← FJ.out];exact kx rd n j p hp) (i:=q) (by rw[← FJ.out];exact hqn);unfold cC at this;rw[← fG]at this;have e:=Bn.out;rw[e];exact this
     have II:Hid (i7 rd row q=false→q+1≤ia rd n row):=fun e=>gV _ _ q (by simpa using hqn) HN.out (by simpa [hqn]using e);have KP:Hid (i7 rd row q=true→ia rd n row=q):=fun e=>iY _ _ q (by simpa using hqn) HN.out (by simpa [hqn]using e);have A8:Hid (∀ W,Bel wq W→Calls Tryz.prog 164 #[.slice a row.length c,.string f.nm] W fun e w'=>e=.returned (.bool (Pl.has (row.map (cC fs)) f.nm))∧W=w'):=fun W lX=>D9 _ _ f.nm W ((HO.out.later (aa kl.out lX)).at_ (by rw[List.length_map];have:=ye.out;omega));have uY:Hid (Calls Tryz.prog 165 #[.slice (some ⟨mb,0,none⟩) ms.length ms.length,.string s.kind,.string f.nm,.slice a row.length c] wq fun e w'=>e=.returned (.bool (iv ms s.kind f.nm (row.map (cC fs))))∧Bel wq w'):=vF mb ms s.kind f.nm a _ c _ wq (HA.out.2.1.later (aa fT.out sK.out)) ((HO.out.later kl.out).at_ (by rw[List.length_map];have:=ye.out;omega));have KL:Hid (f.nm=cC fs q):=by show f.nm=cC fs q;rw[fG];rfl
     obtain⟨ha,Jd⟩:∃ ha,ha=Pl.has (row.map (cC fs)) f.nm:=⟨_,rfl⟩
     obtain⟨rn,IK⟩:∃ rn,rn=iv ms s.kind f.nm (row.map (cC fs)):=⟨_,rfl⟩
     rw[← Jd]at oT A8;rw[← IK]at oT uY;clear dP fG Jd IK;go_wp2_with fail
     refine(A8.out _ br).mono ?_;rintro e w' ⟨rfl,rfl⟩;cases ha
     ·go_wp2_with fail
      refine uY.out.mono ?_;rintro e w3 ⟨rfl,aQ⟩;have gq:=hid (aa kl.out aQ);clear aQ k0 k1 c0 I4 sN;cases rn
      ·have HM:=II.out (by rw[← oT.out];rfl);have AB:=hid HM;clear HM;go_wp2;go_roundw
       case rel=>exact⟨rfl,q+1,by omega,by go_num,AB.out,gq.out⟩
       case measure=>simp[intOf];omega
      ·have pb:Hid (cn rd n (j+1)=row++[q]):=by
        have e:=KP.out (by rw[← oT.out];rfl);have:=ml rd n j (by rw[← oZ.out,e];exact hqn);rw[← oZ.out,e]at this;exact this
       have EV:=ye.out;have eQ:=(aa HW.out gq.out).size;go_wp2_with (at_builtin;refine wpList_append_own _ rfl _ _ 94 rfl wb.heap.size 9 i0 (.string ByteArray.empty) 1 16 Tryz.underlying94 hi mV jq gR rfl (by decide) (.slice a row.length c) row.length ((row.map (cC fs)).map Value.string) rfl ?c0 ⟨w3.heap.size,0,none⟩ 1 1 [.string f.nm] rfl ?c1 ?c2 ?c3 ?c4 ?c5 ?c6 ?_)
       case c0=>
        have:=HO.out.2;rw[List.length_map]at this;exact cL this (aa gq.out (ab br _))
       case c1=>rfl
       case c2=>intro k u hk;cases k with|zero=>(simp at hk;subst hk;simp[Addr.add])|succ k=>simp at hk
       case c3=>intro u hu;simp at hu;subst hu;rfl
       case c4=>unfold maxLen;omega
       case c5=>omega
       case c6=>simp;omega
       intro v' w4 cE cK _;obtain⟨a4,d4,LD⟩:=ep cE;subst LD;have Ik:Hid (dj w4 wb.heap.size (.slice a4 (row.length+1) d4) ((row++[q]).map (cC fs))):=by
        refine dj.of ?_ (by simp);rw[List.length_map,List.length_append,List.map_append,List.map_append,List.map_map];rw[KL.out]at cE;exact cE
       have aY:Hid (Bel wb w4):=by
        have hb:=ab (aa HW.out gq.out) (.cells #[.string f.nm] 9);exact Below.grown hb cK hb.size (fun k hk=>(World.ownsRow.lt (HO.out.later gq.out).2 k hk).1)
       clear cE cK;go_wp2;go_roundw
       case rel=>first|exact⟨j+1,a4,d4,by omega,by go_num,by rw[pb.out,List.length_append];rfl,by rw[pb.out];exact Ik.out,aY.out⟩|((repeat apply Exists.intro);exact⟨⟨j+1,a4,d4,by omega,by go_num,by rw[pb.out,List.length_append];rfl,by rw[pb.out];exact Ik.out,aY.out⟩,rfl⟩)
       case measure=>simp[intOf];omega
     ·have AB:=hid (II.out (by rw[← oT.out];rfl));go_wp2;go_roundw
      case rel=>exact⟨rfl,q+1,by omega,by go_num,AB.out,kl.out⟩
      case measure=>simp[intOf];omega
    ·have pb:Hid (cn rd n (j+1)=row):=by
      show cn rd n (j+1)=row;rw[cn,← oZ.out,if_neg (by have:=HN.out;omega)]
     go_wp2;go_roundw
     case rel=>first|exact⟨j+1,a,c,by omega,by go_num,by rw[pb.out],by rw[pb.out];exact HO.out.later kl.out,sK.out⟩|((repeat apply Exists.intro);exact⟨⟨j+1,a,c,by omega,by go_num,by rw[pb.out],by rw[pb.out];exact HO.out.later kl.out,sK.out⟩,rfl⟩)
     case measure=>simp[intOf];omega
  ·obtain rfl:j=n:=by omega
   go_wp2;go_ret;rw[← oZ.out];exact⟨⟨a,c,rfl,HO.out.at_ (by rw[List.length_map];have:=ye.out;omega)⟩,aa fT.out HW.out⟩
set_option maxRecDepth 8000
set_option maxHeartbeats 40000000
open Go.RowKit Go.Deep
structure VAt (w:World) (g:Nat) (vs:List ByteArray):Prop where
 lt:g<w.heap.size
 len:vs.length≤1048576
 at_:∀ i,i<vs.length→w.cell? ⟨g,i,none⟩=some (.string (vs.getD i ByteArray.empty))
theorem VAt.later {w w':World} {g:Nat} {vs:List ByteArray} (h:VAt w g vs) (hb:Bel w w'):VAt w' g vs:=
 ⟨lo h.lt hb.size,h.len,fun i hi=>(hb.cell (p:=⟨g,i,none⟩) h.lt).trans (h.at_ i hi)⟩
def jP (vs:List ByteArray) (n:kS):Bool:=if n.anyth then !(vs.getD n.place ByteArray.empty).toList.isEmpty else ((vs.getD n.place ByteArray.empty).toList==n.is_.toList)
def fH (p:Nat) (vs:List ByteArray) (x:Mng):Bool:=decide (x.field=p)&&x.needs.all (jP vs)
def dq (L:List Mng) (p:Nat) (vs:List ByteArray):Nat:=L.findIdx (fH p vs)
def jd (x:Mng) (vs:List ByteArray):ByteArray:=if x.put.toList.isEmpty then vs.getD x.frm ByteArray.empty else x.put
theorem Kg (n:kS) (g cap:Nat) (vs:List ByteArray) (w:World) (h:VAt w g vs) (hp:n.place<vs.length):
  Calls Tryz.prog 218 #[.agg #[.int .i64 (n.place:Nat),.bool n.anyth,.string n.is_],.slice (some ⟨g,0,none⟩) vs.length cap] w fun e w'=>e=.returned (.bool (jP vs n))∧Bel w w':=by
 have hg:=h.lt;have hl:=h.len;have hc:∀ o,(w.alloc o).cell? ⟨g,n.place,none⟩=some (.string (vs.getD n.place ByteArray.empty)):=fun o=>(World.cell?_alloc_past _ _ _ hg).trans (h.at_ _ hp);have uI:=h.at_ _ hp;have HM:Hid (jP vs n=if n.anyth then !(vs.getD n.place ByteArray.empty).toList.isEmpty else ((vs.getD n.place ByteArray.empty).toList==n.is_.toList)):=rfl;obtain⟨v,hv⟩:∃ v,v=vs.getD n.place ByteArray.empty:=⟨_,rfl⟩
 rw[← hv]at hc HM uI;clear h hv;cases ha:n.anyth
 ·have AB:Hid (jP vs n=(v.toList==n.is_.toList)):=by show jP vs n=_;rw[HM.out,ha];rfl
  clear HM;go_enter Tryz.func218,Tryz.ntmps218
  go_wp2_with fail
  go_quiet (fail)
  go_wp2;go_ret;exact⟨by rw[AB.out];rfl,by repeat(first|exact br|refine al ?_ _|refine ab ?_ _)⟩
 ·have AB:Hid (jP vs n= !v.toList.isEmpty):=by show jP vs n=_;rw[HM.out,ha];rfl
  clear HM;go_enter Tryz.func218,Tryz.ntmps218
  go_wp2;go_ret;exact⟨by rw[AB.out];rfl,ab br _⟩
theorem DS (f:Nat) (a:Option Addr) (k c:Nat) (pt:ByteArray) (fr:Nat) (g cap:Nat) (vs:List ByteArray) (w:World) (h:VAt w g vs) (hp:pt.toList.isEmpty=true→fr<vs.length):
  Calls Tryz.prog 208 #[.agg #[.int .i64 (f:Nat),.slice a k c,.string pt,.int .i64 (fr:Nat)],.slice (some ⟨g,0,none⟩) vs.length cap] w fun e w'=>e=.returned (.string (if pt.toList.isEmpty then vs.getD fr ByteArray.empty else pt))∧Bel w w':=by
 have hg:=h.lt;have hl:=h.len;cases he:pt.toList.isEmpty
 ·go_enter Tryz.func208,Tryz.ntmps208
  go_wp2;go_ret;exact⟨rfl,ab br _⟩
 ·have hp:=hp he;have hc:∀ o,(w.alloc o).cell? ⟨g,fr,none⟩=some (.string (vs.getD fr ByteArray.empty)):=fun o=>(World.cell?_alloc_past _ _ _ hg).trans (h.at_ _ hp);have uI:=h.at_ _ hp;obtain⟨v,hv⟩:∃ v,v=vs.getD fr ByteArray.empty:=⟨_,rfl⟩
  rw[← hv]at hc uI;rw[← hv];clear h hv;go_enter Tryz.func208,Tryz.ntmps208
  go_wp2;go_ret;exact⟨rfl,ab br _⟩
theorem oa {L:List Mng} {p:Nat} {vs:List ByteArray} {q:Nat} (hq:q<L.length) (h:q≤dq L p vs) (hd:fH p vs (L.getD q Mng.none)=false):q+1≤dq L p vs:=by
 rcases Nat.lt_or_eq_of_le h with h|h
 ·exact h
 ·exfalso;have e:L.getD q Mng.none=L[q]:=by simp[hq]
  have:=List.findIdx_getElem (xs:=L) (p:=fH p vs) (w:=by unfold dq at h;rw[← h];exact hq);rw[e]at hd;unfold dq at h;simp only[← h]at this;rw[hd]at this;cases this
theorem wT {L:List Mng} {p:Nat} {vs:List ByteArray} {q:Nat} (hq:q<L.length) (h:q≤dq L p vs) (hd:fH p vs (L.getD q Mng.none)=true):dq L p vs=q:=by
 have e:L.getD q Mng.none=L[q]:=by simp[hq]
 rw[e]at hd;have:dq L p vs≤q:=by
  rcases Nat.lt_or_ge q (dq L p vs) with aw|GC
  ·have:=List.not_of_lt_findIdx aw;rw[hd]at this;cases this
  ·exact GC
 omega
theorem vU (a:Option Addr) (c p g cap:Nat) (L:List Mng) (vs:List ByteArray) (w:World) (hL:fg w (.slice a L.length c) L) (hl:L.length≤12) (h2:∀ x∈L,x.needs.length≤2) (hp:∀ x∈L,∀ n∈x.needs,n.place<vs.length) (h:VAt w g vs):
  Calls Tryz.prog 207 #[.slice a L.length c,.int .i64 (p:Nat),.slice (some ⟨g,0,none⟩) vs.length cap] w fun e w'=>(∃ (f:Nat) (a:Option Addr) (k c:Nat) (pt:ByteArray) (fr:Nat),e=.returned (.tuple #[.agg #[.int .i64 (f:Nat),.slice a k c,.string pt,.int .i64 (fr:Nat)],.bool (decide (dq L p vs<L.length))])∧(dq L p vs<L.length→pt=(L.getD (dq L p vs) Mng.none).put∧fr=(L.getD (dq L p vs) Mng.none).frm))∧Bel w w':=by
 have HH:=hid (And.intro hL (And.intro h2 (And.intro hp h)));clear hL h2 hp h;go_enter Tryz.func207,Tryz.ntmps207
 go_wp2;go_step3
 go_wp2;go_step3
 go_wp2;go_loopw [9,11,14] (fun s9 s11 s14 wr=>∃ q:Nat,q≤L.length∧s14=.int .i64 q∧q≤dq L p vs∧Bel w wr∧ai wr w.heap.size 238 4) (fun _ _ s14 _=>L.length - (intOf s14).toNat)
 case atStart=>exact⟨0,nz,rfl,nz,ab br _,ai.alloc w _ _ _ rfl⟩
 case round=>
  obtain⟨q,hq,rfl,hqd,hW,hO⟩:=hrel;rename World=>wo;have HQ:=hid hqd;have HO:=hid hO;have HW:=hid hW;clear hqd hO;by_cases aw:q<L.length
  ·rcases HH.out.1 with⟨e0,_⟩|⟨gm,cm,e0,hgm,hms⟩
   ·rw[e0]at aw;exact absurd aw (Nat.not_lt_zero q)
   injection e0 with e1 _ e3
   subst e1 e3;obtain⟨x,hx⟩:∃ x,x=L.getD q Mng.none:=⟨_,rfl⟩
   obtain⟨ax,dx,DM⟩:=hms q aw;rw[← hx]at DM;have HX:=hid (And.intro hx (And.intro (HH.out.2.1 x (by rw[hx];simp[aw])) (HH.out.2.2.1 x (by rw[hx];simp[aw]))));have K3:=hid DM.needs;have K4:=DM.later hW hgm;obtain⟨c0,c1,c2,c3,_⟩:=K4;have Bq:=lo hgm hW.size;clear DM hms hx;by_cases heq:(x.field:Int)=(p:Int)
   case neg=>
    have HD:=hid (oa aw HQ.out (by rw[← HX.out.1];unfold fH;rw[decide_eq_false (by omega)];rfl));go_wp2;go_roundw
    case rel=>exact⟨q+1,by omega,by go_num,HD.out,ab HW.out _,HO.out.later (ab br _)⟩
    case measure=>simp[intOf];omega
   obtain rfl:p=x.field:=by omega
   clear heq;have Gn:=HX.out.2.1;obtain⟨w1,dW⟩:∃ w1,w1=wo.alloc (.cells #[.int .i64 (x.field:Nat),.slice ax x.needs.length dx,.string x.put,.int .i64 (x.frm:Nat)] 238):=⟨_,rfl⟩
   have HW1:Hid (Bel w w1):=by show Below _ _ _;rw[dW];exact ab HW.out _
   have DJ:Hid (ai w1 w.heap.size 238 4):=by show ai _ _ _ _;rw[dW];exact HO.out.later (ab br _)
   have lv:Hid (wo.heap.size<w1.heap.size∧w1.cell? ⟨wo.heap.size,0,none⟩=some (.int .i64 (x.field:Nat))∧w1.cell? ⟨wo.heap.size,1,none⟩=some (.slice ax x.needs.length dx)∧w1.cell? ⟨wo.heap.size,2,none⟩=some (.string x.put)∧w1.cell? ⟨wo.heap.size,3,none⟩=some (.int .i64 (x.frm:Nat))):=by
    show _∧_∧_∧_∧_;rw[dW];exact⟨by simp,World.cell?_alloc_at _ _ _ _ rfl,World.cell?_alloc_at _ _ _ _ rfl,World.cell?_alloc_at _ _ _ _ rfl,World.cell?_alloc_at _ _ _ _ rfl⟩
   go_upto_region 4 with fail
   rw[← dW];clear dW c0 c1 c2 c3 Bq;obtain⟨mz,m0,m1,m2,m3⟩:=lv.out;go_wp2;clear mz m0 m1 m2 m3;go_loopw [11,25] (fun s11 s25 wq=>∃ j:Nat,j≤x.needs.length∧s25=.int .i64 j∧(x.needs.take j).all (jP vs)=true∧Bel w1 wq) (fun _ s25 _=>x.needs.length - (intOf s25).toNat)
   case atStart=>exact⟨0,nz,rfl,rfl,br⟩
   case round=>
    obtain⟨j,hj,rfl,av,Bo⟩:=hrel;rename World=>wq;have HA:=hid av;have vK:=hid (aa HW1.out Bo);have kl:=hid Bo;clear av;by_cases pa:j<x.needs.length
    ·rcases K3.out with⟨e0,_⟩|⟨g2,c2,e0,vJ,bS⟩
     ·rw[e0]at pa;exact absurd pa (Nat.not_lt_zero j)
     injection e0 with e1 e2 e3
     subst e1 e3;obtain⟨d0,d1,d2⟩:=bS j pa;have d0:=(vK.out.cell (p:=⟨g2,j*3,none⟩) vJ).trans d0;have d1:=(vK.out.cell (p:=⟨g2,j*3+1,none⟩) vJ).trans d1;have d2:=(vK.out.cell (p:=⟨g2,j*3+2,none⟩) vJ).trans d2;obtain⟨y,hy⟩:∃ y,y=x.needs.getD j ⟨0,false,ByteArray.empty⟩:=⟨_,rfl⟩
     rw[← hy]at d0 d1 d2;have hgq:=lo vJ vK.out.size;have JV:y=x.needs[j]:=by rw[hy];simp[pa]
     have HY:Hid ((x.needs.take (j+1)).all (jP vs)=jP vs y):=by
      show (x.needs.take (j+1)).all (jP vs)=jP vs y;rw[List.take_succ_eq_append_getElem pa,List.all_append,HA.out,JV];simp
     have HC:Hid (∀ o,Calls Tryz.prog 218 #[.agg #[.int .i64 (y.place:Nat),.bool y.anyth,.string y.is_],.slice (some ⟨g,0,none⟩) vs.length cap] (wq.alloc o) fun e w'=>e=.returned (.bool (jP vs y))∧Below (wq.alloc o).heap.size (wq.alloc o) w'):=fun o=>Kg y g cap vs _ ((HH.out.2.2.2.later vK.out).later (ab br _)) (HX.out.2.2 y (by rw[JV];exact List.getElem_mem pa));have u6:Hid (jP vs y=false→x.needs.all (jP vs)=false):=by
      intro hf;rw[List.all_eq_false];exact⟨y,by rw[JV];exact List.getElem_mem pa,by rw[hf];simp⟩
     obtain⟨mb,qk⟩:∃ mb,mb=jP vs y:=⟨_,rfl⟩
     rw[← qk]at HY HC u6;clear qk hy JV bS Bo;go_wp2_with fail
     refine(HC.out _).mono ?_;rintro e w3 ⟨rfl,aQ⟩;have xP:Hid (Bel wq w3):=aa (ab br _) aQ;clear aQ d0 d1 d2 HC;cases mb
     ·have HD:=hid (oa aw HQ.out (by rw[← HX.out.1];unfold fH;rw[u6.out rfl];simp));have JY:=hid ((DJ.out.later kl.out).later xP.out);go_wp2;go_roundw
      case rel=>first|exact⟨q+1,by omega,by go_num,HD.out,aa vK.out xP.out,JY.out⟩|((repeat apply Exists.intro);exact⟨⟨q+1,by omega,by go_num,HD.out,aa vK.out xP.out,JY.out⟩,rfl⟩)
      case measure=>simp[intOf];omega
     ·go_wp2;go_roundw
      case rel=>first|exact⟨j+1,by omega,by go_num,HY.out,aa kl.out xP.out⟩|((repeat apply Exists.intro);exact⟨⟨j+1,by omega,by go_num,HY.out,aa kl.out xP.out⟩,rfl⟩)
      case measure=>simp[intOf];omega
    ·have HD:Hid (dq L x.field vs=q):=wT aw HQ.out (by
      have:=HA.out;rw[List.take_of_length_le (by omega)]at this;rw[← HX.out.1];unfold fH;rw[this];simp)
     have Gb:=hid (DJ.out.later kl.out);have k:=fun j=>kl.out.cell (p:=⟨wo.heap.size,j,none⟩) lv.out.1;have m0:=(k 0).trans lv.out.2.1;have m1:=(k 1).trans lv.out.2.2.1;have m2:=(k 2).trans lv.out.2.2.2.1;have m3:=(k 3).trans lv.out.2.2.2.2;have mz:=lo lv.out.1 kl.out.size;clear k;have hF:=Gb.out.frozen;have hz:=Gb.out.lt;obtain⟨z0,e0⟩:=Gb.out.cell 0 (by omega);obtain⟨z1,e1⟩:=Gb.out.cell 1 (by omega);obtain⟨z2,e2⟩:=Gb.out.cell 2 (by omega);obtain⟨z3,e3⟩:=Gb.out.cell 3 (by omega);go_wp2;have t:=fun i hi=>cx 0 [.int .i64 (x.field:Nat),.slice ax x.needs.length dx,.string x.put,.int .i64 (x.frm:Nat)] wq 0 Gb.out (by simp) i hi;have t0:=t 0 (by simp);have t1:=t 1 (by simp);have t2:=t 2 (by simp);have t3:=t 3 (by simp);have Kq:Hid (Bel w (aI wq w.heap.size 0 0 [.int .i64 (x.field:Nat),.slice ax x.needs.length dx,.string x.put,.int .i64 (x.frm:Nat)])):=aW (a:=w) _ nr _ _ _ vK.out;simp only[aI,Nat.add_zero,Nat.zero_add,Nat.reduceAdd,List.getElem?_cons_zero,List.getElem?_cons_succ]at t0 t1 t2 t3;try rw[Exit.noGoto_ret]
     refine bodyPost_ret (v:=.tuple #[.agg #[.int .i64 (x.field:Nat),.slice ax x.needs.length dx,.string x.put,.int .i64 (x.frm:Nat)],.bool true]) (by simp[results,Tryz.results207,go_sem,t0,t1,t2,t3]) rfl ⟨⟨x.field,ax,x.needs.length,dx,x.put,x.frm, ?_,fun _=> ?_⟩, ?_⟩
     ·rw[HD.out,decide_eq_true aw]
     ·rw[HD.out,← HX.out.1];exact⟨rfl,rfl⟩
     ·exact Kq.out
  ·have HD:Hid (decide (dq L p vs<L.length)=false):=by have:=HQ.out;show decide _=false;rw[decide_eq_false];omega
   have hF:=HO.out.frozen;have hz:=HO.out.lt;obtain⟨z0,e0⟩:=HO.out.cell 0 (by omega);obtain⟨z1,e1⟩:=HO.out.cell 1 (by omega);obtain⟨z2,e2⟩:=HO.out.cell 2 (by omega);obtain⟨z3,e3⟩:=HO.out.cell 3 (by omega);go_wp2;have t:=fun i hi=>cx 0 [.int .i64 0,.slice none 0 0,.string ⟨#[]⟩,.int .i64 0] wo 0 HO.out (by simp) i hi;have t0:=t 0 (by simp);have t1:=t 1 (by simp);have t2:=t 2 (by simp);have t3:=t 3 (by simp);have Kq:Hid (Bel w (aI wo w.heap.size 0 0 [.int .i64 0,.slice none 0 0,.string ⟨#[]⟩,.int .i64 0])):=aW (a:=w) _ nr _ _ _ HW.out;simp only[aI,Nat.add_zero,Nat.zero_add,Nat.reduceAdd,List.getElem?_cons_zero,List.getElem?_cons_succ]at t0 t1 t2 t3;try rw[Exit.noGoto_ret]
   refine bodyPost_ret (v:=.tuple #[.agg #[.int .i64 0,.slice none 0 0,.string ⟨#[]⟩,.int .i64 0],.bool false]) (by simp[results,Tryz.results207,go_sem,t0,t1,t2,t3]) rfl ⟨⟨0,none,0,0,⟨#[]⟩,0, ?_,fun hh=> ?_⟩, ?_⟩
   ·rw[HD.out];rfl
   ·rw[decide_eq_true hh]at HD;exact absurd HD.out (by simp)
   ·exact Kq.out
set_option maxRecDepth 8000
set_option maxHeartbeats 40000000
open Go.RowKit Go.Deep
theorem lC {ss:List Shp} {ms:List Mnd} {k:Nat} (h:eO ss ms k=true) (ha:bN ss (ms.getD k Mnd.none)=true):eO ss ms (k+1)=true:=by
 unfold eO at h ⊢;rw[Pl.g7,h,ha];rfl
theorem mC {ss:List Shp} {ms:List Mnd} {k:Nat} (h:gL ss ms k=true) (ha:fL ms (ss.getD k Shp.none)=true):gL ss ms (k+1)=true:=by
 unfold gL at h ⊢;rw[Pl.g7,h,ha];rfl
theorem p9 {ss:List Shp} {ms:List Mnd} {k:Nat} (hk:k<ms.length) (h:bN ss (ms.getD k Mnd.none)=false):aO ss ms=false:=by
 unfold aO eO;rw[Pl.gd _ _ k hk h];simp
theorem pZ {ss:List Shp} {ms:List Mnd} {k:Nat} (hk:k<ss.length) (h:fL ms (ss.getD k Shp.none)=false):aO ss ms=false:=by
 unfold aO gL;rw[Pl.gd _ _ k hk h];simp
theorem yu (B mb:Nat) (ss:List Shp) (ms:List Mnd) (w:World) (h:bd w B ss) (hm:dy w mb ms):
  Calls Tryz.prog 59 #[.slice (some ⟨B,0,none⟩) ss.length ss.length,.slice (some ⟨mb,0,none⟩) ms.length ms.length] w fun e w'=>e=.returned (.bool (aO ss ms))∧Bel w w':=by
 have HA:Hid (bd w B ss∧dy w mb ms):=⟨h,hm⟩
 have hl:=h.len;have Gg:=hm.len;clear h hm;go_enter Tryz.func59,Tryz.ntmps59
 go_wp2_with fail
 refine(xx B ss w HA.out.1).mono ?_;rintro e w1 ⟨rfl,bj⟩;have cN:Hid (Bel w w1):=bj;clear bj;cases gJ:aM ss
 ·have HR:Hid (aO ss ms=false):=by show aO ss ms=false;unfold aO;rw[gJ];rfl
  go_wp2;go_ret;exact⟨Pl.ae HR.out.symm,cN.out⟩
 have uN:Hid (aM ss=true):=gJ;clear gJ;by_cases jr:ms.length≤12
 case neg=>
  have HR:Hid (aO ss ms=false):=by show aO ss ms=false;unfold aO;simp[jr]
  go_wp2;go_ret;exact⟨Pl.ae HR.out.symm,cN.out⟩
 go_wp2;go_loopw [5] (fun i wr=>∃ k:Nat,k≤ms.length∧i=.int .i64 k∧eO ss ms k=true∧Bel w wr) (fun i _=>ms.length - (intOf i).toNat)
 case atStart=>exact⟨0,nz,rfl,rfl,cN.out⟩
 case round=>
  obtain⟨k,hk,rfl,av,hW⟩:=hrel;have HM:Hid (eO ss ms k=true):=av;have HW:Hid (Bel w wr):=hW;clear av;by_cases aw:k<ms.length
  ·have iI:=(HA.out.2.later hW).at_ k aw;obtain⟨m,gT⟩:∃ m,m=ms.getD k Mnd.none:=⟨_,rfl⟩
   rw[← gT]at iI;have qk:mb<wr.heap.size:=(HA.out.2.later hW).lt;have HX:Hid (Calls Tryz.prog 116 #[.slice (some ⟨B,0,none⟩) ss.length ss.length,.agg #[.string m.kind,.string m.field,.string m.whn,.string m.is_,.string m.put,.string m.frm]] wr fun e w'=>e=.returned (.bool (bN ss m))∧Bel wr w'):=BP B ss m wr (HA.out.1.later hW) uN.out iI.sized;obtain⟨c0,c1,c2,c3,c4,c5,_⟩:=iI;have HS:Hid (bN ss m=true→eO ss ms (k+1)=true):=fun e=>lC HM.out (by rw[← gT];exact e);have HF:Hid (bN ss m=false→aO ss ms=false):=fun e=>p9 aw (by rw[← gT];exact e);clear gT hW;go_wp2_with fail
   refine HX.out.mono ?_;rintro e w3 ⟨rfl,aQ⟩;have gq:Hid (Bel w w3):=aa HW.out aQ;clear aQ c0 c1 c2 c3 c4 c5 qk;cases hr:bN ss m
   ·have HR:Hid (aO ss ms=false):=HF.out hr;go_wp2;go_ret;exact⟨Pl.ae HR.out.symm,gq.out⟩
   ·have HR:Hid (eO ss ms (k+1)=true):=HS.out hr;go_wp2;go_roundw
    case rel=>exact⟨k+1,by omega,by go_num,HR.out,gq.out⟩
    case measure=>simp[intOf];omega
  ·obtain rfl:k=ms.length:=by omega
   clear hW;go_wp2;go_loopw [6] (fun i wr=>∃ q:Nat,q≤ss.length∧i=.int .i64 q∧gL ss ms q=true∧Bel w wr) (fun i _=>ss.length - (intOf i).toNat)
   case atStart=>exact⟨0,nz,rfl,rfl,HW.out⟩
   case round=>
    obtain⟨q,hq,rfl,sH,hW⟩:=hrel;rename World=>wq;have Hw:Hid (gL ss ms q=true):=sH;have kl:Hid (Bel w wq):=hW;clear sH;by_cases hqn:q<ss.length
    ·obtain⟨s,hs⟩:∃ s,s=ss.getD q Shp.none:=⟨_,rfl⟩
     obtain⟨b,iZ,_,c0,c1⟩:=(HA.out.1.later hW).uj hqn hs;have A9:Hid (aG ss s.fields=true):=by show aG ss s.fields=true;rw[hs];exact iQ uN.out hqn
     have FG:Hid (∀ m∈ms,bk s.kind m=true→found s.fields m):=by rw[hs];exact lD uN.out HM.out hqn
     have E6:=jF A9.out;have HX:Hid (∀ W,Bel wq W→Calls Tryz.prog 117 #[.agg #[.string s.kind,.slice (some ⟨b,0,none⟩) s.fields.length s.fields.length],.slice (some ⟨mb,0,none⟩) ms.length ms.length] W fun e w'=>(∃ a c,e=.returned (.slice a (cn (rdM s.fields ms s.kind) s.fields.length s.fields.length).length c))∧Bel W w'∧w'.cell? ⟨B,q*2+1,none⟩=some (.slice (some ⟨b,0,none⟩) s.fields.length s.fields.length)∧B<w'.heap.size):=by
      intro W lX;refine(Ew ss s b mb ms W (iZ.later lX) (HA.out.2.later (aa kl.out lX)) A9.out FG.out).mono ?_;rintro e w' ⟨⟨a,c,rfl,_⟩,hb⟩;exact⟨⟨_,_,rfl⟩,hb,((aa lX hb).cell (p:=⟨B,q*2+1,none⟩) (HA.out.1.later kl.out).lt).trans c1,lo (HA.out.1.later kl.out).lt (aa lX hb).size⟩
     have FW:B<wq.heap.size:=(HA.out.1.later hW).lt;have HS:Hid (fL ms s=true→gL ss ms (q+1)=true):=fun e=>mC Hw.out (by rw[← hs];exact e);have HF:Hid (fL ms s=false→aO ss ms=false):=fun e=>pZ hqn (by rw[← hs];exact e);obtain⟨rl,EV⟩:∃ rl,rl=(cn (rdM s.fields ms s.kind) s.fields.length s.fields.length).length:=⟨_,rfl⟩
     have hrl6:rl≤6:=by have:=jH (rdM s.fields ms s.kind) s.fields.length s.fields.length;omega
     have ye:Hid (fL ms s=decide (rl=s.fields.length)):=by rw[EV];rfl
     rw[← EV]at HX;clear hs iZ EV hW;by_cases heq:(rl:Int)=(s.fields.length:Int)
     ·have HR:Hid (gL ss ms (q+1)=true):=HS.out (by rw[ye.out];simp;omega);go_wp2_with fail
      go_region_with (go_at_call 117;refine(HX.out _ ?_).mono ?_;(repeat(first|exact br|refine Below.drew ?_));rintro e w3 ⟨⟨a3,c3,rfl⟩,aQ,d1,dB⟩)
      all_goals
       go_wp2;go_roundw
       case rel=>
        refine⟨q+1,by omega,by go_num,HR.out, ?_⟩;repeat(first|exact aa kl.out aQ|exact aa kl.out.drew aQ|exact aa kl.out.drew.drew aQ|refine Below.drew ?_)
       case measure=>simp[intOf];omega
     ·have HR:Hid (aO ss ms=false):=HF.out (by rw[ye.out];simp;omega);go_wp2_with fail
      go_region_with (go_at_call 117;refine(HX.out _ ?_).mono ?_;(repeat(first|exact br|refine Below.drew ?_));rintro e w3 ⟨⟨a3,c3,rfl⟩,aQ,d1,dB⟩)
      all_goals
       go_wp2;go_ret;refine⟨Pl.ae HR.out.symm, ?_⟩;repeat(first|exact aa kl.out aQ|exact aa kl.out.drew aQ|exact aa kl.out.drew.drew aQ|refine Below.drew ?_)
    ·obtain rfl:q=ss.length:=by omega
     have HR:Hid (aO ss ms=true):=by show aO ss ms=true;unfold aO;rw[uN.out,HM.out,Hw.out];simp[jr]
     go_wp2;go_ret;exact⟨Pl.ae HR.out.symm,kl.out⟩
set_option maxRecDepth 8000
set_option maxHeartbeats 40000000
open Go.RowKit Go.Deep
theorem pY (fs:List Fld) (ms:List Mnd) (K:ByteArray):∀ x∈bx fs ms K,x.needs.length≤2:=by
 intro x hx;unfold bx at hx;rw[List.mem_map]at hx;obtain⟨m,_,rfl⟩:=hx;show (dU fs m).length≤2;unfold dU;split<;>split<;>simp
theorem sb (fs:List Fld) (ms:List Mnd) (K:ByteArray):(bx fs ms K).length≤ms.length:=by
 rw[← nj fs ms K ms.length nr];exact oI fs ms K ms.length
theorem z8 (B mb:Nat) (ss:List Shp) (ms:List Mnd) (w:World) (h:bd w B ss) (hm:dy w mb ms):
  Calls Tryz.prog 81 #[.slice (some ⟨B,0,none⟩) ss.length ss.length,.slice (some ⟨mb,0,none⟩) ms.length ms.length] w fun e w'=>e=.returned (.bool (aO ss ms))∧Bel w w':=by
 have HA:=hid (And.intro h hm);have hl:=h.len;have Gg:=hm.len;clear h hm;go_enter Tryz.func81,Tryz.ntmps81
 go_wp2_with fail
 refine(xn B ss w HA.out.1).mono ?_;rintro e w1 ⟨rfl,bj⟩;have cN:=hid bj;clear bj;cases gJ:aM ss
 ·have HR:Hid (aO ss ms=false):=by show aO ss ms=false;unfold aO;rw[gJ];rfl
  go_wp2;go_ret;exact⟨Pl.ae HR.out.symm,cN.out⟩
 have uN:=hid gJ;clear gJ;by_cases jr:ms.length≤12
 case neg=>
  have HR:Hid (aO ss ms=false):=by show aO ss ms=false;unfold aO;simp[jr]
  go_wp2;go_ret;exact⟨Pl.ae HR.out.symm,cN.out⟩
 go_wp2;go_loopw [23] (fun i wr=>∃ k:Nat,k≤ms.length∧i=.int .i64 k∧eO ss ms k=true∧Bel w wr) (fun i _=>ms.length - (intOf i).toNat)
 case atStart=>exact⟨0,nz,rfl,rfl,cN.out⟩
 case round=>
  obtain⟨k,hk,rfl,av,hW⟩:=hrel;have HM:=hid av;have HW:=hid hW;clear av;by_cases aw:k<ms.length
  ·have iI:=(HA.out.2.later hW).at_ k aw;obtain⟨m,gT⟩:∃ m,m=ms.getD k Mnd.none:=⟨_,rfl⟩
   rw[← gT]at iI;have qk:=(HA.out.2.later hW).lt;have HZ:Hid m.sized:=iI.sized;obtain⟨c0,c1,c2,c3,c4,c5,_⟩:=iI;have HS:Hid (bN ss m=true→eO ss ms (k+1)=true):=fun e=>lC HM.out (by rw[← gT];exact e);have HF:Hid (bN ss m=false→aO ss ms=false):=fun e=>p9 aw (by rw[← gT];exact e);have HO:Hid (ai (wr.alloc (.cells #[.string m.kind,.string m.field,.string m.whn,.string m.is_,.string m.put,.string m.frm] 136)) wr.heap.size 136 6∧fR (wr.alloc (.cells #[.string m.kind,.string m.field,.string m.whn,.string m.is_,.string m.put,.string m.frm] 136)) wr.heap.size 0 m):=⟨ai.alloc wr _ 136 6 rfl,⟨by simp,by simp,by simp,by simp,by simp,by simp,HZ.out⟩⟩
   have qe:Hid (Bel w (wr.alloc (.cells #[.string m.kind,.string m.field,.string m.whn,.string m.is_,.string m.put,.string m.frm] 136))):=ab HW.out _;clear gT hW;go_wp2_with fail
   refine(jB w B ss m.kind _ HA.out.1 qe.out).mono ?_;rintro e w2 ⟨kd,a,n,c,rfl,kD,aA⟩;have jU:=hid (aa qe.out aA);have FT:=hid (And.intro (HO.out.1.later aA) (HO.out.2.later aA HO.out.1.lt));have mW:=hid kD;have gR:=FT.out.1.lt;have m0:=FT.out.2.c0;have m1:=FT.out.2.c1;have m2:=FT.out.2.c2;have m3:=FT.out.2.c3;have m4:=FT.out.2.c4;have m5:=FT.out.2.c5;clear aA kD c0 c1 c2 c3 c4 c5 qk HO qe;cases x8:aJ ss m.kind
   ·have HR:=hid (HF.out (by unfold bN;rw[x8];rfl));go_wp2;go_ret;exact⟨Pl.ae HR.out.symm,ab jU.out _⟩
   obtain⟨e1,b,e2,gK,dV⟩:=mW.out x8;have sZ:aB ss m.kind<ss.length:=by unfold aJ at x8;exact of_decide_eq_true x8
   obtain⟨s,hs⟩:∃ s,s=ss.getD (aB ss m.kind) Shp.none:=⟨_,rfl⟩
   rw[← hs]at e1 e2 dV;subst e1;injection e2 with e2 e3 e4
   subst e2 e3 e4;have dO:s.small:=HA.out.1.small s (by rw[hs];simp[sZ]);have qZ:Hid (bW w b s.fields):=⟨gK,dO.1,dO.2,dV⟩
   have HE:Hid (bN ss m=aL s.fields m):=by show bN ss m=_;unfold bN;rw[x8,← hs];rfl
   have iZ:=dO.1;clear hs dO dV gK sZ mW;go_wp2_with fail
   refine(BK b s.fields m _ (qZ.out.later (ab jU.out _)) HZ.out).mono ?_;rintro e w3 ⟨rfl,aQ⟩;have gq:Hid (Bel w w3):=aa (ab jU.out _) aQ;clear aQ m0 m1 m2 m3 m4 m5;cases hr:aL s.fields m
   ·have HR:=hid (HF.out (by rw[HE.out];exact hr));go_wp2;go_ret;exact⟨Pl.ae HR.out.symm,gq.out⟩
   ·have HR:=hid (HS.out (by rw[HE.out];exact hr));go_wp2;go_roundw
    case rel=>exact⟨k+1,by omega,by go_num,HR.out,gq.out⟩
    case measure=>simp[intOf];omega
  ·obtain rfl:k=ms.length:=by omega
   clear hW;go_wp2;go_loopw [46] (fun i wr=>∃ q:Nat,q≤ss.length∧i=.int .i64 q∧gL ss ms q=true∧Bel w wr) (fun i _=>ss.length - (intOf i).toNat)
   case atStart=>exact⟨0,nz,rfl,rfl,HW.out⟩
   case round=>
    obtain⟨q,hq,rfl,sH,hW⟩:=hrel;rename World=>wq;have Hw:=hid sH;have kl:=hid hW;clear sH;by_cases hqn:q<ss.length
    ·obtain⟨s,hs⟩:∃ s,s=ss.getD q Shp.none:=⟨_,rfl⟩
     obtain⟨b,iZ,_,c0,c1⟩:=(HA.out.1.later hW).uj hqn hs;have FG:Hid (∀ m∈ms,bk s.kind m=true→found s.fields m):=by rw[hs];exact lD uN.out HM.out hqn
     have E6:s.fields.length≤6:=by rw[hs];exact jF (iQ uN.out hqn)
     have FW:=(HA.out.1.later hW).lt;have HS:Hid (fL ms s=true→gL ss ms (q+1)=true):=fun e=>mC Hw.out (by rw[← hs];exact e);have HF:Hid (fL ms s=false→aO ss ms=false):=fun e=>pZ hqn (by rw[← hs];exact e);have HX:Hid (∀ W,Bel wq W→wq.heap.size<W.heap.size→W.cell? ⟨wq.heap.size,0,none⟩=some (.string s.kind)→W.cell? ⟨wq.heap.size,1,none⟩=some (.slice (some ⟨b,0,none⟩) s.fields.length s.fields.length)→Calls Tryz.prog 135 #[.agg #[.string s.kind,.slice (some ⟨b,0,none⟩) s.fields.length s.fields.length],.slice (some ⟨mb,0,none⟩) ms.length ms.length] W fun e w'=>
       (∃ a n c,e=.returned (.slice a n c)∧fg w' (.slice a n c) (bx s.fields ms s.kind))∧Bel W w'∧(w'.cell? ⟨wq.heap.size,0,none⟩=some (.string s.kind)∧w'.cell? ⟨wq.heap.size,1,none⟩=some (.slice (some ⟨b,0,none⟩) s.fields.length s.fields.length)∧wq.heap.size<w'.heap.size)):=by
      intro W lX hz g0 g1;refine(nV s b mb ms W (iZ.later lX) (HA.out.2.later (aa kl.out lX)) FG.out).mono ?_;rintro e w' ⟨⟨a,n,c,rfl,DF⟩,hb⟩;exact⟨⟨_,_,_,rfl,DF.at_⟩,hb,(hb.cell (p:=⟨wq.heap.size,0,none⟩) hz).trans g0,(hb.cell (p:=⟨wq.heap.size,1,none⟩) hz).trans g1,lo hz hb.size⟩
     have HY:Hid (∀ a n c W,fg W (.slice a n c) (bx s.fields ms s.kind)→Calls Tryz.prog 134 #[.agg #[.string s.kind,.slice (some ⟨b,0,none⟩) s.fields.length s.fields.length],.slice a n c] W fun e w'=>(∃ a k d,e=.returned (.tuple #[.slice a k d,.bool (fL ms s)]))∧Bel W w'):=by
      intro a n c W DF;refine(sC s.kind s.fields.length _ _ a n c _ W (by omega) DF (Nat.le_trans (sb _ _ _) jr) (pY _ _ _)).mono ?_;rintro e w' ⟨⟨a',k',d',rfl,_⟩,hb⟩;exact⟨⟨_,_,_,rfl⟩,hb⟩
     have qe:Hid (Bel w (wq.alloc (.cells #[.string s.kind,.slice (some ⟨b,0,none⟩) s.fields.length s.fields.length] 134))):=ab kl.out _;clear hs iZ hW;obtain⟨R,hR⟩:∃ R,R=fL ms s:=⟨_,rfl⟩
     rw[← hR]at HY HS HF;clear hR;go_upto_region 13 with fail
     go_cut [12] (fun x wx=>x=.bool R∧Bel w wx)
     case first=>
      go_region_with (first
       |(go_at_call 135;refine(HX.out _ ?_ (by simp) (by simp) (by simp)).mono ?_;(repeat(first|exact br|refine Below.drew ?_|refine ab ?_ _));rintro e w3 ⟨⟨a3,n3,c3,rfl,DF⟩,aQ,g0,g1,gz⟩;have gq:Hid (Bel w w3):=aa (by repeat(first|exact qe.out|refine Below.drew ?_)) aQ;clear aQ)
       |(go_at_call 134;refine(HY.out _ _ _ _ (fg.later DF (by repeat(first|exact br|refine Below.drew ?_)))).mono ?_;rintro e w4 ⟨⟨a4,n4,c4,rfl⟩,cq⟩))
      all_goals
       go_wp2_with fail
       go_meet
       refine⟨rfl, ?_⟩;repeat(first|exact aa gq.out cq|exact aa gq.out.drew cq|exact aa gq.out.drew.drew cq|refine Below.drew ?_)
     case rest=>
     obtain⟨rfl,cJ⟩:=hcut;rename World=>w5;cases R
     ·have HR:=hid (HF.out rfl);go_wp2;go_ret;exact⟨Pl.ae HR.out.symm,cJ⟩
     ·have HR:=hid (HS.out rfl);go_wp2;go_roundw
      case rel=>first|exact⟨q+1,by omega,by go_num,HR.out,cJ⟩|((repeat apply Exists.intro);exact⟨⟨q+1,by omega,by go_num,HR.out,cJ⟩,rfl⟩)
      case measure=>simp[intOf];omega
    ·obtain rfl:q=ss.length:=by omega
     have HR:Hid (aO ss ms=true):=by show aO ss ms=true;unfold aO;rw[uN.out,HM.out,Hw.out];simp[jr]
     go_wp2;go_ret;exact⟨Pl.ae HR.out.symm,kl.out⟩
end Go.Proofs.YtbiokpmdghmgcaaGreat
namespace Go.Proofs.YtbiokpmdghmgcaaGreat
open Go.RowKit Go.Deep
def dg (L:List Mng) (vs:List ByteArray) (p:Nat):List ByteArray:=if dq L p vs<L.length then vs.set p (jd (L.getD (dq L p vs) Mng.none) vs) else vs
def eY (L:List Mng) (vs:List ByteArray) (row:List Nat):List ByteArray:=row.foldl (dg L) vs
def mv (ss:List Shp) (ms:List Mnd) (K:ByteArray):List Mng:=bx (ss.getD (aB ss K) Shp.none).fields ms (ss.getD (aB ss K) Shp.none).kind
def rowAt (ss:List Shp) (ms:List Mnd) (K:ByteArray):List Nat:=cn (gM (mv ss ms K)) (ss.getD (aB ss K) Shp.none).fields.length (ss.getD (aB ss K) Shp.none).fields.length
def bl (ss:List Shp) (ms:List Mnd) (K:ByteArray) (vs:List ByteArray):List ByteArray:=
 if aJ ss K=true∧vs.length=(ss.getD (aB ss K) Shp.none).fields.length then eY (mv ss ms K) vs (rowAt ss ms K) else vs
theorem qo (L:List Mng) (vs:List ByteArray) (p:Nat):(dg L vs p).length=vs.length:=by unfold dg;split<;>simp
theorem jx (L:List Mng):∀ (row:List Nat) (vs:List ByteArray),(eY L vs row).length=vs.length
 |[],_=>rfl
 |p::row,vs=>by show (eY L (dg L vs p) row).length=_;rw[jx L row,qo]
theorem qp (ss:List Shp) (ms:List Mnd) (K:ByteArray) (vs:List ByteArray):(bl ss ms K vs).length=vs.length:=by
 unfold bl;split
 ·exact jx _ _ _
 ·rfl
theorem mB (L:List Mng) (vs:List ByteArray) (row:List Nat) (k:Nat) (hk:k<row.length):eY L vs (row.take (k+1))=dg L (eY L vs (row.take k)) (row.getD k 0):=by
 have e:row.getD k 0=row[k]:=by simp[hk]
 rw[List.take_succ_eq_append_getElem hk,e];unfold eY;rw[List.foldl_append];rfl
theorem Cx {fs:List Fld} {ms:List Mnd} {K:ByteArray} (hf:∀ m∈ms,bk K m=true→found fs m):∀ x∈bx fs ms K,∀ n∈x.needs,n.place<fs.length:=by
 intro x hx n hn;unfold bx at hx;obtain⟨m,hm,rfl⟩:=List.mem_map.1 hx;obtain⟨gk,gQ⟩:=List.mem_filter.1 hm;obtain⟨_,f2,f3⟩:=hf m gk gQ;have yh:n∈dU fs m:=hn;unfold dU at yh;rcases List.mem_append.1 yh with h|h
 ·cases hw:Pl.aE m.whn
  ·rw[hw]at h;simp at h;rw[h];exact f2 hw
  ·rw[hw]at h;simp at h
 ·cases hw:Pl.aE m.frm
  ·rw[hw]at h;simp at h;rw[h];exact f3 hw
  ·rw[hw]at h;simp at h
theorem n6 {ss:List Shp} {ms:List Mnd} (h:aM ss=true) (hm:eO ss ms ms.length=true) {i:Nat} (hi:i<ss.length):∀ m∈ms,bk (ss.getD i Shp.none).kind m=true→aL (ss.getD i Shp.none).fields m=true:=by
 intro m gT hk;unfold eO at hm;rw[mm,List.all_eq_true]at hm;have h1:=hm m gT;unfold bN at h1;have LQ:=mF h hi hk;rw[LQ]at h1;exact((Bool.and_eq_true _ _).mp h1).2
theorem Ei {fs:List Fld} {ms:List Mnd} {K:ByteArray} (hf:∀ m∈ms,bk K m=true→found fs m) (ho:∀ m∈ms,bk K m=true→aL fs m=true):∀ x∈bx fs ms K,x.put.toList.isEmpty=true→x.frm<fs.length:=by
 intro x hx hp;unfold bx at hx;obtain⟨m,hm,rfl⟩:=List.mem_map.1 hx;obtain⟨gk,gQ⟩:=List.mem_filter.1 hm;obtain⟨_,_,f3⟩:=hf m gk gQ;have h2:=ho m gk gQ;unfold aL at h2;simp only[Bool.and_eq_true]at h2;obtain⟨⟨⟨⟨_,p2⟩,_⟩,_⟩,_⟩:=h2;have Lm:Pl.aE m.put=true:=hp;have J4:Pl.aE m.frm=false:=by
  unfold mf at p2;rw[Lm]at p2;cases hh:Pl.aE m.frm
  ·rfl
  ·rw[hh]at p2;simp at p2
 show (if Pl.aE m.frm=true then 0 else nameAt fs m.frm)<fs.length;rw[J4];exact f3 J4
theorem CT.CC {w:World} {lo hi:Nat} {g cap:Nat} {ss:List ByteArray} (h:CT w lo hi (.slice (some ⟨g,0,none⟩) ss.length cap) ss) (p:Nat) (hp:p<ss.length) (z:ByteArray):CT (w.setCell ⟨g,p,none⟩ (.string z)) lo hi (.slice (some ⟨g,0,none⟩) ss.length cap) (ss.set p z):=by
 rcases h with⟨e,e2⟩|⟨g',xL,e,h1,h2,h3,h4,h5⟩
 ·rw[e2]at hp;exact absurd hp (Nat.not_lt_zero p)
 ·injection e with e1 e3 e4
  injection e1 with e1
  injection e1 with e1
  subst e1 e4;refine Or.inr ⟨g,cap,by rw[List.length_set],h1,h2,h3.setCell p _,by rw[List.length_set];exact h4,fun i hi=> ?_⟩;rw[List.length_set]at hi;by_cases hip:i=p
  ·subst hip;rw[eJ h3 i (by omega) _];simp[hi]
  ·rw[aF _ _ _ _ _ _ (Or.inr hip),h5 i hi];simp[hi,Ne.symm hip]
theorem fU.CC {w wr:World} {X mid:Nat} {o:Ob} {vs:List ByteArray} {g cap:Nat} {v2:Value} (h:fU w wr X mid o vs (.slice (some ⟨g,0,none⟩) vs.length cap) v2) (p:Nat) (hp:p<vs.length) (z:ByteArray):
  fU w (wr.setCell ⟨g,p,none⟩ (.string z)) X mid o (vs.set p z) (.slice (some ⟨g,0,none⟩) vs.length cap) v2:=by
 obtain⟨g1,g2,_,_,_,_⟩:=h.c1.row;have m1:=h.m1;have m2:=h.m2;have c:∀ j,(wr.setCell ⟨g,p,none⟩ (.string z)).cell? ⟨X,j,none⟩=wr.cell? ⟨X,j,none⟩:=fun j=>aF _ _ _ _ _ _ (Or.inl (by omega));exact⟨h.bel.setCell (p:=⟨g,p,none⟩) (by show w.heap.size≤g;omega) _,h.own.bh (by omega) _ _,by rw[fh];exact h.lt,(c 0).trans h.x0,(c 1).trans h.x1,(c 2).trans h.x2,(c 3).trans h.x3,(c 4).trans h.x4,(c 5).trans h.x5,(c 6).trans h.x6,h.c1.CC p hp z,h.c2.sc (Or.inl (by omega)) _ _,m1,m2⟩
end Go.Proofs.YtbiokpmdghmgcaaGreat
