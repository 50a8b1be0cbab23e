import Derived.Deep.QuietTactic
import Derived.Deep.DeepCutAuto
import Derived.WalkMore
import Derived.Deep.LoopGhost
import Derived.Test.YtbiokpmdghmgcaaGreatWalkMF
import Derived.Test.YtbiokpmdghmgcaaGreatWalkML
import Derived.Test.YtbiokpmdghmgcaaGreatWalkAI
namespace Go.Proofs.YtbiokpmdghmgcaaGreat
set_option maxRecDepth 8000
set_option maxHeartbeats 40000000
open Go.RowKit Go.Deep
theorem Tryz.DJ:(Tryz.prog.info? 238).map (fun i=>(i.zero,i.size,i.bytes))=some (some (.agg #[.int .i64 0,.slice none 0 0,.string ByteArray.empty,.int .i64 0]),4,56):=by kernel_rfl
def nn (w:World) (xs:List Value) (o:Nat) (x:Mng):Prop:=
 ∃ a c,xs[o]? =some (.int .i64 (x.field:Nat))∧xs[o+1]? =some (.slice a x.needs.length c)∧xs[o+2]? =some (.string x.put)∧xs[o+3]? =some (.int .i64 (x.frm:Nat))∧gq w 0 (.slice a x.needs.length c) x.needs
def fP (w:World) (lo:Nat) (v:Value) (L:List Mng):Prop:=
 ∃ xs,w.ownsRow lo 238 4 v L.length xs∧∀ i,i<L.length→nn w xs (i*4) (L.getD i Mng.none)
theorem nn.later {w w':World} {xs:List Value} {o:Nat} {x:Mng} (h:nn w xs o x) (hb:Bel w w'):nn w' xs o x:=by
 obtain⟨a,c,h0,h1,h2,h3,h4⟩:=h;exact⟨a,c,h0,h1,h2,h3,bV h4 hb⟩
theorem fP.later {w w':World} {lo:Nat} {v:Value} {L:List Mng} (h:fP w lo v L) (hb:Bel w w'):fP w' lo v L:=by
 obtain⟨xs,h1,h2⟩:=h;exact⟨xs,bV h1 hb,fun i hi=>(h2 i hi).later hb⟩
theorem fP.nil (w:World) (lo:Nat):fP w lo (.slice none 0 0) []:=⟨[],World.ownsRow_nil _ _ _ _,fun i hi=>absurd hi (Nat.not_lt_zero i)⟩
theorem nn.snoc {w:World} {xs:List Value} {o:Nat} {x:Mng} (h:nn w xs o x) (ys:List Value):nn w (xs++ys) o x:=by
 obtain⟨a,c,h0,h1,h2,h3,h4⟩:=h;have q:∀ {j:Nat} {u:Value},xs[j]? =some u→(xs++ys)[j]? =some u:=fun {j u} hj=>by
  rw[List.getElem?_append_left (List.getElem?_eq_some_iff.1 hj).1];exact hj
 exact⟨a,c,q h0,q h1,q h2,q h3,h4⟩
theorem nn.grown {w w':World} {xs:List Value} {o:Nat} {x:Mng} (h:nn w xs o x) {lo n:Nat} {v:Value} {ys:List Value} (ho:w.ownsRow lo 238 4 v n ys) (hg:w.grownBy w' v.ownBlock):nn w' xs o x:=by
 obtain⟨a,c,h0,h1,h2,h3,h4⟩:=h;exact⟨a,c,h0,h1,h2,h3,oV h4 ho (by decide) hg⟩
theorem uS {w w':World} {lo:Nat} {v v':Value} {L:List Mng} {x:Mng} {xs:List Value} (h:w.ownsRow lo 238 4 v L.length xs) (hx:∀ i,i<L.length→nn w xs (i*4) (L.getD i Mng.none)) {a:Option Addr} {n c:Nat} (hn:gq w 0 (.slice a n c) x.needs)
  (ho:w'.ownsRow lo 238 4 v' (L.length+1) (xs++[.int .i64 (x.field:Nat),.slice a n c,.string x.put,.int .i64 (x.frm:Nat)])) (hg:w.grownBy w' v.ownBlock):fP w' lo v' (L++[x]):=by
 have hlen:n=x.needs.length:=by obtain⟨a',c',e⟩:=dS hn;injection e
 subst hlen;have hl:xs.length=L.length*4:=h.1;refine⟨_,by rw[List.length_append];exact ho,fun i hi=> ?_⟩;rw[List.length_append,List.length_singleton]at hi;by_cases hik:i<L.length
 ·have e:(L++[x]).getD i Mng.none=L.getD i Mng.none:=by simp[hik,List.getElem?_append_left hik]
  rw[e];exact((hx i hik).grown h hg).snoc _
 ·obtain rfl:i=L.length:=by omega
  have e:(L++[x]).getD L.length Mng.none=x:=by simp
  rw[e];have q:∀ j,(xs++[.int .i64 (x.field:Nat),.slice a x.needs.length c,.string x.put,.int .i64 (x.frm:Nat)])[L.length*4+j]? =[Value.int .i64 (x.field:Nat),.slice a x.needs.length c,.string x.put,.int .i64 (x.frm:Nat)][j]? :=fun j=>by
   rw[List.getElem?_append_right (by omega)];congr 1;omega
  exact⟨a,c,q 0,q 1,q 2,q 3,oV hn h (by decide) hg⟩
def found (fs:List Fld) (m:Mnd):Prop:=nameAt fs m.field<fs.length∧(Pl.aE m.whn=false→nameAt fs m.whn<fs.length)∧(Pl.aE m.frm=false→nameAt fs m.frm<fs.length)
def bm (K:ByteArray) (m:Mnd):Bool:=m.kind.toList==K.toList
def ep (fs:List Fld) (ms:List Mnd) (K:ByteArray) (k:Nat):List Mng:=((ms.take k).filter (bm K)).map (ec fs)
def bz (fs:List Fld) (ms:List Mnd) (K:ByteArray):List Mng:=(ms.filter (bm K)).map (ec fs)
theorem oN (fs:List Fld) (ms:List Mnd) (K:ByteArray) (k:Nat):(ep fs ms K k).length≤ms.length:=by
 unfold ep;rw[List.length_map];exact Nat.le_trans (List.length_filter_le _ _) (by rw[List.length_take];omega)
theorem sr (fs:List Fld) (ms:List Mnd) (K:ByteArray) (k:Nat) (hk:k<ms.length):ep fs ms K (k+1)=ep fs ms K k++(if bm K (ms.getD k Mnd.none)=true then [ec fs (ms.getD k Mnd.none)] else []):=by
 have e:ms.getD k Mnd.none=ms[k]:=by simp[hk]
 unfold ep;rw[e,List.take_succ_eq_append_getElem hk,List.filter_append,List.map_append];congr 1;by_cases h:bm K ms[k]=true
 ·simp[h]
 ·simp[h]
theorem nO (fs:List Fld) (ms:List Mnd) (K:ByteArray) (k:Nat) (hk:ms.length≤k):ep fs ms K k=bz fs ms K:=by
 unfold ep bz;rw[List.take_of_length_le hk]
theorem oh (s:Shp) (fb mb:Nat) (ms:List Mnd) (w:World) (h:bW w fb s.fields) (hm:dv w mb ms) (fN:∀ m∈ms,bm s.kind m=true→found s.fields m):
  Calls Tryz.prog 135 #[.agg #[.string s.kind,.slice (some ⟨fb,0,none⟩) s.fields.length s.fields.length],.slice (some ⟨mb,0,none⟩) ms.length ms.length] w fun e w'=>
   (∃ a n c,e=.returned (.slice a n c)∧fP w' w.heap.size (.slice a n c) (bz s.fields ms s.kind))∧Bel w w':=by
 have hl:=hm.len;have HA:=hid (And.intro h (And.intro hm fN));obtain⟨i0,hi,mR,jr,gX⟩:=info_parts Tryz.DJ;clear h hm fN;have gd:Hid (Bel w (w.alloc (.cells #[.string s.kind,.slice (some ⟨fb,0,none⟩) s.fields.length s.fields.length] 134))):=ab br _;go_enter Tryz.func135,Tryz.ntmps135
 go_wp2;go_loopw [5,10] (fun v i wr=>∃ (k:Nat) (a:Option Addr) (c:Nat),k≤ms.length∧i=.int .i64 k∧v=.slice a (ep s.fields ms s.kind k).length c∧fP wr (w.heap.size+1) v (ep s.fields ms s.kind k)∧Below (w.alloc (.cells #[.string s.kind,.slice (some ⟨fb,0,none⟩) s.fields.length s.fields.length] 134)).heap.size (w.alloc (.cells #[.string s.kind,.slice (some ⟨fb,0,none⟩) s.fields.length s.fields.length] 134)) wr) (fun _ i _=>ms.length - (intOf i).toNat)
 case atStart=>exact⟨0,none,0,nz,rfl,rfl,fP.nil _ _,br⟩
 case round=>
  obtain⟨k,a,c,hk,rfl,rfl,hO,hW⟩:=hrel;have HO:=hid hO;have HW:=hid (aa gd.out hW);have th:w.heap.size<wr.heap.size:=lo (by simp) hW.size;have k0:wr.cell? ⟨w.heap.size,0,none⟩=some (.string s.kind):=(hW.cell (p:=⟨w.heap.size,0,none⟩) (by simp)).trans (by simp);have k1:wr.cell? ⟨w.heap.size,1,none⟩=some (.slice (some ⟨fb,0,none⟩) s.fields.length s.fields.length):=(hW.cell (p:=⟨w.heap.size,1,none⟩) (by simp)).trans (by simp);have mo:=hid hW;clear hO hW;by_cases av:k<ms.length
  ·have iL:=(HA.out.2.1.later HW.out).at_ k av;obtain⟨m,g9⟩:∃ m,m=ms.getD k Mnd.none:=⟨_,rfl⟩
   rw[← g9]at iL;have HM:Hid (m=ms.getD k Mnd.none∧m∈ms∧m.sized):=⟨g9,by rw[g9];simp[av],iL.sized⟩
   have qE:=lo HA.out.2.1.lt HW.out.size;obtain⟨c0,c1,c2,c3,c4,c5,_⟩:=iL;have HS:Hid (ep s.fields ms s.kind (k+1)=ep s.fields ms s.kind k++(if bm s.kind m=true then [ec s.fields m] else [])):=by have:=sr s.fields ms s.kind k av;rw[← g9]at this;exact this
   clear g9;cases heq:(m.kind.toList==s.kind.toList)
   ·have rA:Hid (ep s.fields ms s.kind (k+1)=ep s.fields ms s.kind k):=by show _=_;have:=HS.out;rw[show bm s.kind m=false from heq]at this;simpa using this
    clear HS;go_wp2;go_roundw
    case rel=>exact⟨k+1,a,c,by omega,by go_num,by rw[rA.out],by rw[rA.out];exact HO.out.later (ab br _),ab mo.out _⟩
    case measure=>simp[intOf];omega
   ·have rA:Hid (ep s.fields ms s.kind (k+1)=ep s.fields ms s.kind k++[ec s.fields m]):=by show _=_;have:=HS.out;rw[show bm s.kind m=true from heq]at this;simpa using this
    have GG:=hid (HA.out.2.2 m HM.out.2.1 heq);clear HS;have cC:Bel wr (wr.alloc (.cells #[.string m.kind,.string m.field,.string m.whn,.string m.is_,.string m.put,.string m.frm] 136)):=ab br _;go_wp2_with fail
    refine(xl fb s.fields m _ (HA.out.1.later (aa HW.out cC)) HM.out.2.2 GG.out.1 GG.out.2.1 GG.out.2.2).mono ?_;rintro e w2 ⟨⟨a2,n2,GF,rfl,hnd⟩,aA⟩;have bE:=aa cC aA;obtain⟨xs,yQ,yJ⟩:=HO.out.later bE;obtain⟨nf,yM⟩:∃ nf,nf=(ec s.fields m).field:=⟨_,rfl⟩
    obtain⟨nr,Nt⟩:∃ nr,nr=(ec s.fields m).frm:=⟨_,rfl⟩
    rw[← yM,← Nt];have HX:Hid (w2.ownsRow (w.heap.size+1) 238 4 (.slice a (ep s.fields ms s.kind k).length c) (ep s.fields ms s.kind k).length xs∧(∀ i,i<(ep s.fields ms s.kind k).length→nn w2 xs (i*4) ((ep s.fields ms s.kind k).getD i Mng.none))∧gq w2 0 (.slice a2 n2 GF) (ec s.fields m).needs∧nf=(ec s.fields m).field∧nr=(ec s.fields m).frm):=⟨yQ,yJ,n9 hnd nz,yM,Nt⟩
    have iH:=hid bE;have hle:=oN s.fields ms s.kind k;obtain⟨L,hL⟩:∃ L,L=ep s.fields ms s.kind k:=⟨_,rfl⟩
    rw[← hL]at HX rA HO hle ⊢;have ze:=hid hL;have Nj:wr.heap.size<w2.heap.size:=lo (by simp) aA.size;clear aA hnd bE cC yQ yJ yM Nt hL c0 c1 c2 c3 c4 c5 k0 k1 qE;go_wp2_with (at_builtin;refine wpList_append_own _ rfl _ _ 199 rfl (w.heap.size+1) 238 i0 (.agg #[.int .i64 0,.slice none 0 0,.string ByteArray.empty,.int .i64 0]) 4 56 Tryz.underlying199 hi mR jr gX rfl (by decide) (.slice a L.length c) L.length xs rfl ?c0 ⟨w2.heap.size,0,none⟩ 1 1 [.int .i64 (nf:Nat),.slice a2 n2 GF,.string m.put,.int .i64 (nr:Nat)] rfl ?c1 ?c2 ?c3 ?c4 ?c5 ?c6 ?_)
    case c0=>exact bV HX.out.1 (ab br _)
    case c1=>rfl
    case c2=>
     intro j u hj;match j,hj with
     |0,hj=>simp at hj;subst hj;simp[Addr.add]
     |1,hj=>simp at hj;subst hj;simp[Addr.add]
     |2,hj=>simp at hj;subst hj;simp[Addr.add]
     |3,hj=>simp at hj;subst hj;simp[Addr.add]
     |k+4,hj=>simp at hj
    case c3=>intro u hu;simp at hu;rcases hu with rfl|rfl|rfl|rfl<;>rfl
    case c4=>unfold maxLen;omega
    case c5=>omega
    case c6=>simp;omega
    intro v' w3 cq ct _;obtain⟨a3,d3,pR⟩:=dS cq;subst pR;have BA:Bel w2 (w2.alloc (.cells #[.int .i64 (nf:Nat),.slice a2 n2 GF,.string m.put,.int .i64 (nr:Nat)] 238)):=ab br _;have HN:Hid (fP w3 (w.heap.size+1) (.slice a3 (L.length+1) d3) (L++[ec s.fields m])):=by
     refine uS (w:=w2.alloc (.cells #[.int .i64 (nf:Nat),.slice a2 n2 GF,.string m.put,.int .i64 (nr:Nat)] 238)) (bV HX.out.1 BA) (fun i hi=>(HX.out.2.1 i hi).later BA) (bV HX.out.2.2.1 BA) ?_ ct;rw[← HX.out.2.2.2.1,← HX.out.2.2.2.2];exact cq
    have fO:Hid (Below (w.alloc (.cells #[.string s.kind,.slice (some ⟨fb,0,none⟩) s.fields.length s.fields.length] 134)).heap.size (w.alloc (.cells #[.string s.kind,.slice (some ⟨fb,0,none⟩) s.fields.length s.fields.length] 134)) w3):=by
     refine Below.grown (aa (aa mo.out iH.out) BA) ct (aa (aa mo.out iH.out) BA).size (fun q hq=> ?_);have:=(World.ownsRow.lt HX.out.1 q hq).1;simpa using this
    clear cq ct BA HX;go_wp2;go_roundw
    case rel=>exact⟨k+1,a3,d3,by omega,by go_num,by rw[rA.out,List.length_append];rfl,by rw[rA.out];exact HN.out,fO.out⟩
    case measure=>simp[intOf];omega
  ·have HE:Hid (ep s.fields ms s.kind k=bz s.fields ms s.kind):=nO _ _ _ _ (by omega);go_wp2;go_ret;refine⟨⟨a,_,c,rfl, ?_⟩,HW.out⟩;obtain⟨xs,x1,x2⟩:=HO.out;rw[← HE.out];exact⟨xs,n9 x1 (by omega),x2⟩
set_option maxRecDepth 8000
set_option maxHeartbeats 40000000
open Go.RowKit Go.Deep
def dj (x:Mng):List Nat:=x.needs.map lv.place
def iP (L:List Mng) (p k:Nat):List Nat:=(L.take k).flatMap fun x=>if x.field=p then dj x else []
def gZ (L:List Mng) (p:Nat):List Nat:=L.flatMap fun x=>if x.field=p then dj x else []
theorem p9 (L:List Mng) (p k:Nat) (hk:k<L.length):iP L p (k+1)=iP L p k++(if (L.getD k Mng.none).field=p then dj (L.getD k Mng.none) else []):=by
 have e:L.getD k Mng.none=L[k]:=by simp[hk]
 unfold iP;rw[e,List.take_succ_eq_append_getElem hk,List.flatMap_append];simp
theorem zq (L:List Mng) (p k:Nat) (hk:L.length≤k):iP L p k=gZ L p:=by unfold iP gZ;rw[List.take_of_length_le hk]
theorem r9 (L:List Mng) (p:Nat) (h2:∀ x∈L,x.needs.length≤2):∀ k,(iP L p k).length≤2*k
 |0=>by simp[iP]
 |k+1=>by
  have ih:=r9 L p h2 k;by_cases hk:k<L.length
  ·rw[p9 L p k hk,List.length_append];have hm:L.getD k Mng.none∈L:=by simp[hk]
   obtain⟨y,hy⟩:∃ y,y=L.getD k Mng.none:=⟨_,rfl⟩
   rw[← hy]at hm ⊢;have:=h2 _ hm;split
   ·simp[dj];omega
   ·simp;omega
  ·have e:iP L p (k+1)=iP L p k:=by unfold iP;rw[List.take_of_length_le (by omega),List.take_of_length_le (by omega)]
   rw[e];omega
def iU (w:World) (v:Value) (ns:List lv):Prop:=
 (ns=[]∧∃ a c,v=.slice a 0 c)∨∃ g c,v=.slice (some ⟨g,0,none⟩) ns.length c∧g<w.heap.size∧∀ i,i<ns.length→
  w.cell? ⟨g,i*3,none⟩=some (.int .i64 ((ns.getD i ⟨0,false,ByteArray.empty⟩).place:Nat))∧w.cell? ⟨g,i*3+1,none⟩=some (.bool (ns.getD i ⟨0,false,ByteArray.empty⟩).anyth)∧w.cell? ⟨g,i*3+2,none⟩=some (.string (ns.getD i ⟨0,false,ByteArray.empty⟩).is_)
theorem gq.at_ {w:World} {lo:Nat} {v:Value} {ns:List lv} (h:gq w lo v ns):iU w v ns:=by
 have bP:∀ g,v.ownBlock=some g→∀ j u,(dy ns)[j]? =some u→w.cell? ((⟨g,0,none⟩:Addr).add j)=some u:=fun g hg=>World.ownsRow.cells h hg;rcases h.2 with⟨rfl,hn⟩|⟨g,cap,cur,rfl,_,hg,_⟩
 ·exact Or.inl ⟨List.length_eq_zero_iff.1 hn,_,_,rfl⟩
 ·refine Or.inr ⟨g,cap,rfl,(Array.getElem?_eq_some_iff.1 hg).1,fun i hi=> ?_⟩;have q:∀ j u,j<3→(bb (ns.getD i ⟨0,false,ByteArray.empty⟩))[j]? =some u→w.cell? ⟨g,i*3+j,none⟩=some u:=by
   intro j u hj hu;have:=bP g rfl (i*3+j) u (by rw[kZ ns i j hi hj];exact hu);rw[Addr.add_lit,Nat.zero_add]at this;exact this
  exact⟨q 0 _ (by omega) rfl,q 1 _ (by omega) rfl,q 2 _ (by omega) rfl⟩
theorem iU.later {w w':World} {v:Value} {ns:List lv} (h:iU w v ns) (hb:Bel w w'):iU w' v ns:=by
 rcases h with h|⟨g,c,rfl,h1,h2⟩
 ·exact Or.inl h
 ·exact Or.inr ⟨g,c,rfl,lo h1 hb.size,fun i hi=>⟨(hb.cell (p:=⟨g,_,none⟩) h1).trans (h2 i hi).1,(hb.cell (p:=⟨g,_,none⟩) h1).trans (h2 i hi).2.1,(hb.cell (p:=⟨g,_,none⟩) h1).trans (h2 i hi).2.2⟩⟩
structure sP (w:World) (g o:Nat) (x:Mng) (a:Option Addr) (c:Nat):Prop where
 c0:w.cell? ⟨g,o,none⟩=some (.int .i64 (x.field:Nat))
 c1:w.cell? ⟨g,o+1,none⟩=some (.slice a x.needs.length c)
 c2:w.cell? ⟨g,o+2,none⟩=some (.string x.put)
 c3:w.cell? ⟨g,o+3,none⟩=some (.int .i64 (x.frm:Nat))
 needs:iU w (.slice a x.needs.length c) x.needs
theorem sP.later {w w':World} {g o:Nat} {x:Mng} {a:Option Addr} {c:Nat} (h:sP w g o x a c) (hb:Bel w w') (av:g<w.heap.size):sP w' g o x a c:=by
 have q:∀ j,w'.cell? ⟨g,j,none⟩=w.cell? ⟨g,j,none⟩:=fun j=>hb.cell (p:=⟨g,j,none⟩) av;exact⟨(q _).trans h.c0,(q _).trans h.c1,(q _).trans h.c2,(q _).trans h.c3,h.needs.later hb⟩
def fh (w:World) (v:Value) (L:List Mng):Prop:=
 (L=[]∧∃ a c,v=.slice a 0 c)∨∃ g c,v=.slice (some ⟨g,0,none⟩) L.length c∧g<w.heap.size∧∀ i,i<L.length→∃ a d,sP w g (i*4) (L.getD i Mng.none) a d
theorem fh.later {w w':World} {v:Value} {L:List Mng} (h:fh w v L) (hb:Bel w w'):fh w' v L:=by
 rcases h with h|⟨g,c,rfl,h1,h2⟩
 ·exact Or.inl h
 ·refine Or.inr ⟨g,c,rfl,lo h1 hb.size,fun i hi=> ?_⟩;obtain⟨a,d,h3⟩:=h2 i hi;exact⟨a,d,h3.later hb h1⟩
theorem fP.at_ {w:World} {lo:Nat} {v:Value} {L:List Mng} (h:fP w lo v L):fh w v L:=by
 obtain⟨xs,h1,h2⟩:=h;have bP:∀ g,v.ownBlock=some g→∀ j u,xs[j]? =some u→w.cell? ((⟨g,0,none⟩:Addr).add j)=some u:=fun g hg=>World.ownsRow.cells h1 hg;rcases h1.2 with⟨rfl,hn⟩|⟨g,cap,cur,rfl,_,hg,_⟩
 ·exact Or.inl ⟨List.length_eq_zero_iff.1 hn,_,_,rfl⟩
 ·refine Or.inr ⟨g,cap,rfl,(Array.getElem?_eq_some_iff.1 hg).1,fun i hi=> ?_⟩;obtain⟨a,c,q0,q1,q2,q3,q4⟩:=h2 i hi;have q:∀ j u,xs[j]? =some u→w.cell? ⟨g,j,none⟩=some u:=by
   intro j u hu;have:=bP g rfl j u hu;rw[Addr.add_lit,Nat.zero_add]at this;exact this
  exact⟨a,c,q _ _ q0,q _ _ q1,q _ _ q2,q _ _ q3,q4.at_⟩
theorem gp.later {w w':World} {lo:Nat} {v:Value} {l:List Nat} (h:gp w lo v l) (hb:Bel w w'):gp w' lo v l:=bV h hb
theorem tI (mb g cap p:Nat) (L:List Mng) (w:World) (hc:w.cell? ⟨mb,0,none⟩=some (.slice (some ⟨g,0,none⟩) L.length cap)) (hg:g<w.heap.size) (hL:∀ i,i<L.length→∃ a d,sP w g (i*4) (L.getD i Mng.none) a d) (hl:L.length≤12) (h2:∀ x∈L,x.needs.length≤2):
  Calls Tryz.prog 175 #[.int .i64 (p:Nat),.pointer (some ⟨mb,0,none⟩)] w fun e w'=>(∃ a n c,e=.returned (.slice a n c)∧dn w' (.slice a n c) (gZ L p))∧Bel w w':=by
 have HL:=hid (And.intro hL h2);obtain⟨i0,hi,mR,jr,gX⟩:=info_parts Tryz.zS;clear hL h2;go_enter Tryz.func175,Tryz.ntmps175
 go_wp2;clear hc;go_loopw [4,11] (fun v i wr=>∃ (k:Nat) (a:Option Addr) (c:Nat),k≤L.length∧i=.int .i64 k∧v=.slice a (iP L p k).length c∧gp wr w.heap.size v (iP L p k)∧Bel w wr) (fun _ i _=>L.length - (intOf i).toNat)
 case atStart=>exact⟨0,none,0,nz,rfl,rfl,World.ownsRow_nil _ _ _ _,br⟩
 case round=>
  obtain⟨k,a,c,hk,rfl,rfl,hO,hW⟩:=hrel;have HO:=hid hO;have HW:=hid hW;have HT:=hid (r9 L p HL.out.2 k);clear hO;by_cases av:k<L.length
  ·obtain⟨ax,dx,Ld⟩:=HL.out.1 k av;obtain⟨x,Jk⟩:∃ x,x=L.getD k Mng.none:=⟨_,rfl⟩
   rw[← Jk]at Ld;have hx:=Ld.later hW hg;have HX:=hid (And.intro Jk (HL.out.2 x (by rw[Jk];simp[av])));have HS:Hid (iP L p (k+1)=iP L p k++(if x.field=p then dj x else [])):=by have:=p9 L p k av;rw[← Jk]at this;exact this
   have zf:=lo hg hW.size;obtain⟨c0,c1,c2,c3,_⟩:=hx;have LO:=hid Ld.needs;clear Jk Ld hW;by_cases heq:(x.field:Int)=(p:Int)
   ·have rA:Hid (iP L p (k+1)=iP L p k++dj x):=by have:=HS.out;rw[if_pos (by omega)]at this;exact this
    clear HS;have Ih:=HX.out.2;go_wp2;clear c0 c1 c2 c3;obtain⟨l,hll⟩:∃ l,l=iP L p k:=⟨_,rfl⟩
    rw[← hll]at rA HO HT ⊢;clear hll;go_loopw [4,22] (fun v i wq=>∃ (j:Nat) (a:Option Addr) (c:Nat),j≤x.needs.length∧i=.int .i64 j∧v=.slice a (l++(dj x).take j).length c∧gp wq w.heap.size v (l++(dj x).take j)∧Bel w wq) (fun _ i _=>x.needs.length - (intOf i).toNat)
    case atStart=>exact⟨0,a,c,nz,rfl,by simp,by simpa using HO.out.later (ab br _),ab HW.out _⟩
    case round=>
     obtain⟨j,aj,cj,hj,rfl,rfl,hOj,Cg⟩:=hrel;rename World=>wq;have Kq:=hid hOj;have xe:=hid Cg;have HTj:Hid ((l++(dj x).take j).length≤2*k+2):=by show (l++(dj x).take j).length≤2*k+2;have:=HT.out;rw[List.length_append,List.length_take];simp[dj];omega
     clear hOj;by_cases pH:j<x.needs.length
     ·rcases LO.out with⟨e0,_⟩|⟨g2,c2,e0,xb,bP⟩
      ·rw[e0]at pH;exact absurd pH (Nat.not_lt_zero j)
      injection e0 with e1 e2 e3
      subst e1 e3;obtain⟨d0,d1,d2⟩:=bP j pH;have d0:=(Cg.cell (p:=⟨g2,j*3,none⟩) xb).trans d0;have d1:=(Cg.cell (p:=⟨g2,j*3+1,none⟩) xb).trans d1;have d2:=(Cg.cell (p:=⟨g2,j*3+2,none⟩) xb).trans d2;obtain⟨y,hy⟩:∃ y,y=x.needs.getD j ⟨0,false,ByteArray.empty⟩:=⟨_,rfl⟩
      rw[← hy]at d0 d1 d2;have hgq:=lo xb Cg.size;have HP:Hid (l++(dj x).take (j+1)=(l++(dj x).take j)++[y.place]):=by
       show l++(dj x).take (j+1)=(l++(dj x).take j)++[y.place]
       have hjp:j<(dj x).length:=by simpa [dj]using pH
       rw[List.take_succ_eq_append_getElem hjp,← List.append_assoc];congr 2;simp[dj,hy,pH]
      obtain⟨lj,hlj⟩:∃ lj,lj=l++(dj x).take j:=⟨_,rfl⟩
      rw[← hlj]at HP Kq HTj ⊢;have hlen:=HTj.out;have mo:=hid xe.out;have eU:=mo.out.size;clear hlj hy bP Cg;go_wp2_with (at_builtin;refine wpList_append_own _ rfl _ _ 98 rfl w.heap.size 3 i0 (.int .i64 0) 1 8 Tryz.underlying98 hi mR jr gX rfl (by decide) (.slice aj lj.length cj) lj.length (lj.map fun n=>Value.int .i64 (n:Nat)) rfl ?c0 ⟨wq.heap.size+1,0,none⟩ 1 1 [.int .i64 (y.place:Nat)] rfl ?c1 ?c2 ?c3 ?c4 ?c5 ?c6 ?_)
      case c0=>exact Kq.out.later (ab (ab br _) _)
      case c3=>rfl
      case c4=>unfold maxLen;omega
      case c5=>omega
      case c6=>omega
      intro v' w3 cq ct _;obtain⟨a3,d3,pR⟩:=dS cq;subst pR;have HN:Hid (gp w3 w.heap.size (.slice a3 (lj.length+1) d3) (lj++[y.place])):=by
       show w3.ownsRow _ _ _ _ _ _;rw[List.length_append,List.map_append];exact cq
      have fO:Hid (Bel w w3):=Below.grown (ab (ab xe.out _) _) ct (ab (ab xe.out _) _).size (fun q hq=>(World.ownsRow.lt Kq.out q hq).1);clear cq ct;go_wp2;go_roundw
      case rel=>exact⟨j+1,a3,d3,by omega,by go_num,by rw[HP.out,List.length_append];rfl,by rw[HP.out];exact HN.out,fO.out⟩
      case measure=>simp[intOf];omega
     ·have HE:Hid (iP L p (k+1)=l++(dj x).take j):=by
       show iP L p (k+1)=_;rw[rA.out,List.take_of_length_le (by simp[dj];omega)]
      go_wp2;go_roundw
      case rel=>first|exact⟨k+1,aj,cj,by omega,by go_num,by rw[HE.out],by rw[HE.out];exact Kq.out,xe.out⟩|((repeat apply Exists.intro);exact⟨⟨k+1,aj,cj,by omega,by go_num,by rw[HE.out],by rw[HE.out];exact Kq.out,xe.out⟩,rfl⟩)
      case measure=>simp[intOf];omega
   ·have rA:Hid (iP L p (k+1)=iP L p k):=by show _=_;have:=HS.out;rw[if_neg (by omega)]at this;simpa using this
    clear HS;go_wp2;go_roundw
    case rel=>exact⟨k+1,a,c,by omega,by go_num,by rw[rA.out],by rw[rA.out];exact HO.out.later (ab br _),ab HW.out _⟩
    case measure=>simp[intOf];omega
  ·have HE:Hid (iP L p k=gZ L p):=zq _ _ _ (by omega);go_wp2;go_ret;refine⟨⟨a,_,c,rfl, ?_⟩,HW.out⟩;rw[← HE.out];exact HO.out.at_ (by have:=HT.out;omega)
theorem tP (mb p:Nat) (a:Option Addr) (c:Nat) (w:World) (hc:w.cell? ⟨mb,0,none⟩=some (.slice a 0 c)):
  Calls Tryz.prog 175 #[.int .i64 (p:Nat),.pointer (some ⟨mb,0,none⟩)] w fun e w'=>e=.returned (.slice none 0 0)∧w=w':=by
 go_enter Tryz.func175,Tryz.ntmps175
 go_wp2;refine wp_loop_rounds 1 ?_;rw[rounds_succ];go_wp2;go_ret;exact⟨rfl,rfl⟩
theorem EZ (mb p:Nat) (v:Value) (L:List Mng) (w:World) (hc:w.cell? ⟨mb,0,none⟩=some v) (h:fh w v L) (hl:L.length≤12) (h2:∀ x∈L,x.needs.length≤2):
  Calls Tryz.prog 175 #[.int .i64 (p:Nat),.pointer (some ⟨mb,0,none⟩)] w fun e w'=>(∃ a n c,e=.returned (.slice a n c)∧dn w' (.slice a n c) (gZ L p))∧Bel w w':=by
 rcases h with⟨rfl,a,c,rfl⟩|⟨g,c,rfl,h1,h3⟩
 ·refine(tP mb p a c w hc).mono ?_;rintro e w' ⟨rfl,rfl⟩;exact⟨⟨_,_,_,rfl,Or.inl ⟨rfl,_,_,rfl⟩⟩,br⟩
 ·exact tI mb g c p L w hc h1 h3 hl h2
theorem yk (n:Nat) (h:n≤1048576) (W:World):
  (Instr.makeSlice 98 (.int .i64 (n:Int)) (.int .i64 (n:Int))).run Tryz.prog W=.ok (.slice (some ⟨W.heap.size,0,none⟩) n n) (W.alloc (.cells (madeCells #[.int .i64 0] n) 3)):=
 run_make_row' 98 3 (.int .i64 0) 8 Tryz.underlying98 Tryz.zS rfl .i64 .i64 n (by omega) (by omega) W
theorem At (cs:Array Value) (n k:Nat) (eU:cs.size=n) (hk:k<n) (h:∀ j,j<k→cs[j]? =some (.int .i64 (j:Nat))):
  (cs.setIfInBounds k (.int .i64 (k:Nat))).size=n∧∀ j,j<k+1→(cs.setIfInBounds k (.int .i64 (k:Nat)))[j]? =some (.int .i64 (j:Nat)):=by
 refine⟨by simpa using eU,fun j hj=> ?_⟩;rw[Array.getElem?_setIfInBounds];by_cases e:k=j
 ·subst e;rw[if_pos rfl,if_pos (by omega)]
 ·rw[if_neg e];exact h j (by omega)
set_option maxRecDepth 8000
set_option maxHeartbeats 40000000
open Go.RowKit Go.Deep
theorem so (K:ByteArray) (n:Nat) (af:Option Addr) (cf:Nat) (a:Option Addr) (q c:Nat) (L:List Mng) (w:World) (hn:n≤1048576) (h:fh w (.slice a q c) L) (hl:L.length≤12) (h2:∀ x∈L,x.needs.length≤2):
  Calls Tryz.prog 134 #[.agg #[.string K,.slice af n cf],.slice a q c] w fun e w'=>(∃ a k d,e=.returned (.tuple #[.slice a k d,.bool (je (gZ L) n)])∧(je (gZ L) n=true→dn w' (.slice a k d) (cx (gZ L) n n)))∧Bel w w':=by
 have HH:=hid (And.intro h (And.intro hl h2));have iL:=yk n hn;clear h hl h2;go_enter Tryz.func134,Tryz.ntmps134
 go_wp2;obtain⟨wb,nJ⟩:∃ wb,wb=(w.alloc (.cells #[.string K,.slice af n cf] 134)).alloc (.cells #[.slice a q c] 199):=⟨_,rfl⟩
 have ML:wb.heap.size=w.heap.size+1+1:=by rw[nJ];simp
 have gd:Hid (Bel w wb):=by show Below _ _ _;rw[nJ];exact ab (ab br _) _
 have ry:Hid (wb.cell? ⟨w.heap.size+1,0,none⟩=some (.slice a q c)):=by show _=_;rw[nJ];simp
 rw[← ML,← nJ];have K4:=hid ML;clear nJ ML;go_loopw [14] (fun i wr=>∃ (k:Nat) (cs:Array Value),k≤n∧i=.int .i64 k∧wr=wb.alloc (.cells cs 3)∧cs.size=n∧∀ j,j<k→cs[j]? =some (.int .i64 (j:Nat))) (fun i _=>n - (intOf i).toNat)
 case atStart=>exact⟨0,_,nz,rfl,rfl,size_madeCells _ _,fun j hj=>absurd hj (Nat.not_lt_zero j)⟩
 case round=>
  obtain⟨k,cs,hk,rfl,rfl,eU,aw⟩:=hrel;have HA:=hid (And.intro eU aw);clear aw eU iL;by_cases av:k<n
  ·obtain⟨v,hv⟩:∃ v,cs[k]? =some v:=⟨_,Array.getElem?_eq_getElem (by rw[HA.out.1];exact av)⟩
   have HP:=At cs n k HA.out.1 av HA.out.2;have HP':=hid HP;clear HP;go_wp2;go_roundw
   case rel=>exact⟨k+1,_,by omega,by go_num,rfl,HP'.out.1,HP'.out.2⟩
   case measure=>simp[intOf];omega
  ·obtain rfl:k=n:=by omega
   have vt:Bel w (wb.alloc (.cells cs 3)):=ab gd.out _;have HX:Hid (Calls Tryz.prog 174 #[.slice (some ⟨wb.heap.size,0,none⟩) k k,.func (.func 175) #[] #[.pointer (some ⟨w.heap.size+1,0,none⟩)]] (wb.alloc (.cells cs 3)) fun e w'=>(∃ a j d,e=.returned (.tuple #[.slice a j d,.bool (je (gZ L) k)])∧(je (gZ L) k=true→dn w' (.slice a j d) (cx (gZ L) k k)))∧Below (wb.alloc (.cells cs 3)).heap.size (wb.alloc (.cells cs 3)) w'):=by
    refine LF wb.heap.size k (w.heap.size+1) k (gZ L) (wb.alloc (.cells cs 3)) hn (by simp) (fun i hi=> ?_) (fun x W _ hW=> ?_)
    ·rw[World.cell?_alloc_new];exact HA.out.2 i hi
    have dD:Bel wb W:=aa (ab br _) hW;exact EZ (w.heap.size+1) x (.slice a q c) L W ((dD.cell (p:=⟨w.heap.size+1,0,none⟩) (by have:=K4.out;show w.heap.size+1<_;omega)).trans ry.out) (HH.out.1.later (aa gd.out dD)) HH.out.2.1 HH.out.2.2
   go_wp2_with fail
   refine HX.out.mono ?_;rintro e w3 ⟨⟨a3,k3,d3,rfl,Hb⟩,aO⟩;have eX:=aa vt aO;have Hx:=hid Hb;obtain⟨R,hR⟩:∃ R,R=je (gZ L) k:=⟨_,rfl⟩
   rw[← hR]at Hx ⊢;have fg:=hid hR;clear aO Hb hR;go_wp2;go_ret2;exact⟨⟨a3,k3,d3,by rw[← fg.out];rfl,by rw[← fg.out];exact Hx.out⟩,eX⟩
end Go.Proofs.YtbiokpmdghmgcaaGreat
namespace Go.Proofs.YtbiokpmdghmgcaaGreat
open Go.RowKit Go.Deep
theorem sN:∀ x:List UInt8,Op.bytesLess x x=false
 |[]=>rfl
 |a::x=>by
  have:=sN x;simp[Op.bytesLess,this]
theorem pd:∀ x y z:List UInt8,Op.bytesLess x y=true→Op.bytesLess y z=true→Op.bytesLess x z=true
 |_,[],_,h,_=>by simp[Op.bytesLess]at h
 |_,_::_,[],_,h=>by simp[Op.bytesLess]at h
 |[],_::_,_::_,_,_=>by simp[Op.bytesLess]
 |a::x,b::y,c::z,h1,h2=>by
  have ih:=pd x y z;simp only[Op.bytesLess,Bool.or_eq_true,Bool.and_eq_true,decide_eq_true_eq,beq_iff_eq]at h1 h2 ⊢;rcases h1 with h1|⟨rfl,h1⟩
  ·rcases h2 with h2|⟨rfl,h2⟩
   ·exact Or.inl (UInt8.lt_trans h1 h2)
   ·exact Or.inl h1
  ·rcases h2 with h2|⟨rfl,h2⟩
   ·exact Or.inl h2
   ·exact Or.inr ⟨rfl,ih h1 h2⟩
theorem oL {ss:List Shp} (h:aN ss=true) (i:Nat):∀ d,i+d+1<ss.length→Pl.less (ss.getD i Shp.none).kind (ss.getD (i+d+1) Shp.none).kind=true
 |0,hl=>by
  have:=lB h (i:=i+1) (by omega);unfold eP at this;have h1:=((Bool.and_eq_true _ _).mp ((Bool.and_eq_true _ _).mp this).1).2;simpa using h1
 |d+1,hl=>by
  have ih:=oL h i d (by omega);have:=lB h (i:=i+(d+1)+1) (by omega);unfold eP at this;have h1:=((Bool.and_eq_true _ _).mp ((Bool.and_eq_true _ _).mp this).1).2;have h2:Pl.less (ss.getD (i+d+1) Shp.none).kind (ss.getD (i+(d+1)+1) Shp.none).kind=true:=by
   simpa [show i+(d+1)+1 - 1=i+d+1 by omega]using h1
  exact pd _ _ _ ih h2
theorem mW {ss:List Shp} (h:aN ss=true) {i:Nat} (hi:i<ss.length) {k:ByteArray} (hk:(k.toList==(ss.getD i Shp.none).kind.toList)=true):aB ss k=i:=by
 rw[beq_iff_eq]at hk;have hle:aB ss k≤i:=by
  unfold aB;exact Nat.le_of_not_lt fun av=>by
   have:=List.not_of_lt_findIdx av;have e:ss.getD i Shp.none=ss[i]:=by simp[hi]
   rw[e]at hk;simp[hk]at this
 by_cases hq:aB ss k=i
 ·exact hq
 exfalso;have av:aB ss k<ss.length:=by omega
 have h1:((ss.getD (aB ss k) Shp.none).kind.toList==k.toList)=true:=by
  have e:ss.getD (aB ss k) Shp.none=ss[aB ss k]:=by simp[av]
  rw[e];exact List.findIdx_getElem (xs:=ss) (p:=fun s:Shp=>s.kind.toList==k.toList) (w:=av)
 rw[beq_iff_eq]at h1;have h2:=oL h (aB ss k) (i - aB ss k - 1) (by omega);rw[show aB ss k+(i - aB ss k - 1)+1=i by omega]at h2;unfold Pl.less at h2;rw[h1,hk,sN]at h2;cases h2
theorem fV {ss:List Shp} {fs:List Fld} (h:aH ss fs=true) {i:Nat} (hi:i<fs.length):nameAt fs (fs.getD i Fld.none).nm=i:=by
 have:=oy h hi;unfold fieldAt at this;have h2:=((Bool.and_eq_true _ _).mp this).2;rw[lW fs i hi]at h2;have hle:=qs fs i hi;simp at h2;have:nameAt fs (fs.getD i Fld.none).nm=nameAt fs (fs[i]?.getD Fld.none).nm:=by simp
 omega
theorem mu {fs:List Fld} {a b:ByteArray} (h:a.toList=b.toList):nameAt fs a=nameAt fs b:=by unfold nameAt;rw[h]
def cP (fs:List Fld) (p:Nat):ByteArray:=(fs.getD p Fld.none).nm
theorem rm {ss:List Shp} {fs:List Fld} (h:aH ss fs=true) {row:List Nat} (hr:∀ p∈row,p<fs.length) {k:ByteArray} (hk:nameAt fs k<fs.length):Pl.has (row.map (cP fs)) k=eA row (nameAt fs k):=by
 unfold Pl.has eA;rw[Bool.eq_iff_iff,List.any_eq_true,List.contains_iff_mem];constructor
 ·rintro⟨x,hx,he⟩;rw[List.mem_map]at hx;obtain⟨p,hp,rfl⟩:=hx;rw[beq_iff_eq]at he;have h1:=fV h (hr p hp);have h2:=mu (fs:=fs) he;unfold cP at h2;rw[h1]at h2;rw[← h2];exact hp
 ·intro hm;exact⟨_,List.mem_map.2 ⟨_,hm,rfl⟩,mM hk⟩
theorem mI {α:Type} (d:α) (p:α→Bool) (l:List α):((List.range l.length).all fun i=>p (l.getD i d))=l.all p:=by
 rw[Bool.eq_iff_iff,List.all_eq_true,List.all_eq_true];constructor
 ·intro h x hx;obtain⟨i,hi,rfl⟩:=List.getElem_of_mem hx;have:=h i (List.mem_range.2 hi);simpa [hi]using this
 ·intro h i hi;have BZ:=List.mem_range.1 hi;have:l.getD i d=l[i]:=by simp[BZ]
  rw[this];exact h _ (List.getElem_mem BZ)
theorem yb (fs:List Fld) (m:Mnd) (ms:List Mnd) (K:ByteArray) (i:Nat):gZ (bz fs (m::ms) K) i=(if (bm K m&&decide (nameAt fs m.field=i))=true then (dX fs m).map lv.place else [])++gZ (bz fs ms K) i:=by
 unfold gZ bz;cases h:bm K m
 ·simp[h]
 ·simp[h,ec,dj]
theorem r8 {ss:List Shp} {fs:List Fld} (h:aH ss fs=true) {row:List Nat} (hr:∀ p∈row,p<fs.length) (K:ByteArray) {i:Nat} (hi:i<fs.length):
  ∀ ms:List Mnd,(∀ m∈ms,bm K m=true→found fs m)→ms.all (iZ K (cP fs i) (row.map (cP fs)))= !(gZ (bz fs ms K) i).any (fun y=> !eA row y)
 |[],_=>by simp[gZ,bz]
 |m::ms,hf=>by
  have ih:=r8 h hr K hi ms (fun m' hm'=>hf m' (List.mem_cons_of_mem _ hm'));rw[List.all_cons,ih,yb,List.any_append,Bool.not_or];congr 1;unfold iZ;cases hk:bm K m
  ·have Kd:(m.kind.toList==K.toList)=false:=hk;rw[Kd];simp
  ·have Kd:(m.kind.toList==K.toList)=true:=hk;obtain⟨f1,f2,f3⟩:=hf m (List.mem_cons_self ..) hk;have K8:(m.field.toList==(cP fs i).toList)=decide (nameAt fs m.field=i):=by
    rw[Bool.eq_iff_iff,beq_iff_eq,decide_eq_true_eq];constructor
    ·intro e;have:=mu (fs:=fs) e;rw[this];exact fV h hi
    ·intro e;have:=mM f1;rw[beq_iff_eq,e]at this;exact this.symm
   rw[Kd,K8];by_cases he:nameAt fs m.field=i
   ·simp only[he,decide_true,Bool.and_true,if_true,Bool.not_true,Bool.false_or];have n1:qm (row.map (cP fs)) m.whn=(Pl.aE m.whn||eA row (nameAt fs m.whn)):=by
     unfold qm;cases hw:Pl.aE m.whn
     ·rw[rm h hr (f2 hw)]
     ·rfl
    have n2:qm (row.map (cP fs)) m.frm=(Pl.aE m.frm||eA row (nameAt fs m.frm)):=by
     unfold qm;cases hw:Pl.aE m.frm
     ·rw[rm h hr (f3 hw)]
     ·rfl
    rw[n1,n2];unfold dX;cases hw:Pl.aE m.whn<;>cases hq:Pl.aE m.frm<;>simp
   ·simp[he]
theorem kH (rd:Nat→List Nat) (n:Nat):∀ j,∀ p∈cx rd n j,p<n
 |0,p,h=>by simp[cx]at h
 |j+1,p,h=>by
  rw[cx]at h;split at h
  ·rename_i hl
   rw[List.mem_append,List.mem_singleton]at h;rcases h with h|rfl
   ·exact kH rd n j p h
   ·exact hl
  ·exact kH rd n j p h
def rdM (fs:List Fld) (ms:List Mnd) (K:ByteArray):Nat→List Nat:=gZ (bz fs ms K)
def fI (ms:List Mnd) (s:Shp):Bool:=je (rdM s.fields ms s.kind) s.fields.length
def eM (ss:List Shp) (ms:List Mnd) (k:Nat):Bool:=(List.range k).all fun i=>dA ss (ms.getD i Mnd.none)
def gY (ss:List Shp) (ms:List Mnd) (k:Nat):Bool:=(List.range k).all fun i=>fI ms (ss.getD i Shp.none)
def aU (ss:List Shp) (ms:List Mnd):Bool:=aN ss&&decide (ms.length≤12)&&eM ss ms ms.length&&gY ss ms ss.length
theorem sb {ss:List Shp} {fs:List Fld} (h:aH ss fs=true) (ms:List Mnd) (K:ByteArray) (hf:∀ m∈ms,bm K m=true→found fs m) {row:List Nat} (hr:∀ p∈row,p<fs.length) {i:Nat} (hi:i<fs.length):
  (!Pl.has (row.map (cP fs)) (cP fs i)&&iz ms K (cP fs i) (row.map (cP fs)))=jh (rdM fs ms K) row i:=by
 unfold jh iz rdM;rw[mI,r8 h hr K hi ms hf];have e:nameAt fs (cP fs i)=i:=fV h hi;rw[rm h hr (by rw[e];exact hi),e]
theorem me {ss:List Shp} {ms:List Mnd} (h:aN ss=true) (hm:eM ss ms ms.length=true) {i:Nat} (hi:i<ss.length):∀ m∈ms,bm (ss.getD i Shp.none).kind m=true→found (ss.getD i Shp.none).fields m:=by
 intro m g9 hk;unfold eM at hm;rw[mI,List.all_eq_true]at hm;have h1:=hm m g9;unfold dA at h1;have Mv:=mW h hi hk;rw[Mv]at h1;have h2:=((Bool.and_eq_true _ _).mp h1).2;unfold aR at h2;simp only[Bool.and_eq_true]at h2;obtain⟨⟨⟨⟨p1,_⟩,p3⟩,p4⟩,_⟩:=h2;refine⟨jv p1,fun hw=> ?_,fun hw=> ?_⟩
 ·unfold fS at p3;rw[hw]at p3;simp only[Bool.false_or,Bool.and_eq_true]at p3;exact jv p3.2
 ·unfold fS at p4;rw[hw]at p4;simp only[Bool.false_or,Bool.and_eq_true]at p4;exact jv p4.2
end Go.Proofs.YtbiokpmdghmgcaaGreat
namespace Go.Proofs.YtbiokpmdghmgcaaGreat
set_option maxRecDepth 8000
set_option maxHeartbeats 40000000
open Go.RowKit Go.Deep
def dq (w:World) (lo:Nat) (v:Value) (l:List ByteArray):Prop:=(∃ g c,v=.slice (some ⟨g,0,none⟩) l.length c)∧w.ownsRow lo 9 1 v l.length (l.map Value.string)
theorem dq.later {w w':World} {lo:Nat} {v:Value} {l:List ByteArray} (h:dq w lo v l) (hb:Bel w w'):dq w' lo v l:=⟨h.1,bV h.2 hb⟩
theorem dq.at_ {w:World} {lo:Nat} {v:Value} {l:List ByteArray} (h:dq w lo v l) (hl:l.length≤1048576):ff w v l:=by
 obtain⟨⟨g,c,rfl⟩,ho⟩:=h;have bP:∀ j u,(l.map Value.string)[j]? =some u→w.cell? ((⟨g,0,none⟩:Addr).add j)=some u:=World.ownsRow.cells ho rfl;refine⟨g,c,rfl,(World.ownsRow.lt ho g rfl).2,hl,fun i hi=> ?_⟩;have:=bP i (.string (l.getD i ByteArray.empty)) (by simp[hi]);rw[Addr.add_lit,Nat.zero_add]at this;exact this
theorem dq.start (w:World) (lo:Nat) (hl:lo≤w.heap.size):dq (w.alloc (.cells #[] 9)) lo (.slice (some ⟨w.heap.size,0,none⟩) 0 0) []:=
 ⟨⟨_,_,rfl⟩,World.ownsRow_made w #[] 0 hl (by decide) (by simp)⟩
theorem dq.of {w:World} {lo:Nat} {v:Value} {l:List ByteArray} (h:w.ownsRow lo 9 1 v l.length (l.map Value.string)) (hl:l.length≠0):dq w lo v l:=by
 refine⟨?_,h⟩;rcases h.2 with⟨_,h0⟩|⟨g,cap,cur,rfl,_⟩
 ·exact absurd h0 hl
 ·exact⟨_,_,rfl⟩
theorem EX (ss:List Shp) (s:Shp) (fb mb:Nat) (ms:List Mnd) (w:World) (h:bW w fb s.fields) (hm:dv w mb ms) (qD:aH ss s.fields=true) (hf:∀ m∈ms,bm s.kind m=true→found s.fields m):
  Calls Tryz.prog 117 #[.agg #[.string s.kind,.slice (some ⟨fb,0,none⟩) s.fields.length s.fields.length],.slice (some ⟨mb,0,none⟩) ms.length ms.length] w fun e w'=>
   (∃ a c,e=.returned (.slice a (cx (rdM s.fields ms s.kind) s.fields.length s.fields.length).length c)∧ff w' (.slice a (cx (rdM s.fields ms s.kind) s.fields.length s.fields.length).length c) ((cx (rdM s.fields ms s.kind) s.fields.length s.fields.length).map (cP s.fields)))∧Bel w w':=by
 have hl:=hm.len;have GQ:=jO qD;have HA:=hid (And.intro h (And.intro hm (And.intro qD hf)));obtain⟨i0,hi,mR,jr,gX⟩:=info_parts Tryz.si;clear h hm qD hf;obtain⟨rd,Co⟩:∃ rd,rd=rdM s.fields ms s.kind:=⟨_,rfl⟩
 obtain⟨fs,ea⟩:∃ fs,fs=s.fields:=⟨_,rfl⟩
 have Ce:=hid Co;rw[← Co,← ea];rw[← ea]at GQ HA Ce;clear Co ea;obtain⟨n,hn⟩:∃ n,n=fs.length:=⟨_,rfl⟩
 rw[← hn];rw[← hn]at GQ;have Gq:=hid hn;clear hn;obtain⟨wb,nJ⟩:∃ wb,wb=w.alloc (.cells #[.string s.kind,.slice (some ⟨fb,0,none⟩) n n] 134):=⟨_,rfl⟩
 have gd:Hid (Bel w wb):=by show Below _ _ _;rw[nJ];exact ab br _
 have HK:Hid (wb.heap.size=w.heap.size+1∧wb.cell? ⟨w.heap.size,0,none⟩=some (.string s.kind)∧wb.cell? ⟨w.heap.size,1,none⟩=some (.slice (some ⟨fb,0,none⟩) n n)):=by show _∧_∧_;rw[nJ];exact⟨by simp,by simp,by simp⟩
 go_enter Tryz.func117,Tryz.ntmps117
 go_upto_region 1 with fail
 rw[← nJ];clear nJ;go_wp2;go_loopw [5,6] (fun v i wr=>∃ (j:Nat) (a:Option Addr) (c:Nat),j≤n∧i=.int .i64 j∧v=.slice a (cx rd n j).length c∧dq wr wb.heap.size v ((cx rd n j).map (cP fs))∧Bel wb wr) (fun _ i _=>n - (intOf i).toNat)
 case atStart=>exact⟨0,some ⟨wb.heap.size,0,none⟩,0,nz,rfl,rfl,dq.start wb _ nr,ab br _⟩
 case round=>
  obtain⟨j,a,c,hj,rfl,rfl,hO,hW⟩:=hrel;obtain⟨row,j7⟩:∃ row,row=cx rd n j:=⟨_,rfl⟩
  rw[← j7]at hO ⊢;have HO:=hid hO;have HW:=hid hW;have po:=hid j7;have zj:Hid (row.length≤j):=by show row.length≤j;rw[j7];exact jM rd n j
  have th:w.heap.size<wr.heap.size:=by have:=hW.size;have:=HK.out.1;omega
  have k0:wr.cell? ⟨w.heap.size,0,none⟩=some (.string s.kind):=(hW.cell (p:=⟨w.heap.size,0,none⟩) (by have:=HK.out.1;show w.heap.size<_;omega)).trans HK.out.2.1;have k1:wr.cell? ⟨w.heap.size,1,none⟩=some (.slice (some ⟨fb,0,none⟩) n n):=(hW.cell (p:=⟨w.heap.size,1,none⟩) (by have:=HK.out.1;show w.heap.size<_;omega)).trans HK.out.2.2;clear hO hW j7;by_cases av:j<n
  ·go_wp2;clear k0 k1 th;go_loopw [5,7] (fun v i wq=>v=.slice a row.length c∧∃ q:Nat,q≤n∧i=.int .i64 q∧q≤iB rd n row∧Bel wr wq) (fun _ i _=>n - (intOf i).toNat)
   case atStart=>exact⟨rfl,0,nz,rfl,nz,br⟩
   case round=>
    obtain⟨rfl,q,hq,rfl,iM,Hj⟩:=hrel;rename World=>wq;have HN:=hid iM;have kB:=hid Hj;have tr:=hid (aa HW.out Hj);have th:w.heap.size<wq.heap.size:=by have:=tr.out.size;have:=HK.out.1;omega
    have k0:wq.cell? ⟨w.heap.size,0,none⟩=some (.string s.kind):=(tr.out.cell (p:=⟨w.heap.size,0,none⟩) (by have:=HK.out.1;show w.heap.size<_;omega)).trans HK.out.2.1;have k1:wq.cell? ⟨w.heap.size,1,none⟩=some (.slice (some ⟨fb,0,none⟩) n n):=(tr.out.cell (p:=⟨w.heap.size,1,none⟩) (by have:=HK.out.1;show w.heap.size<_;omega)).trans HK.out.2.2;clear iM Hj;by_cases hqn:q<n
    ·obtain⟨f,fH⟩:∃ f,f=fs.getD q Fld.none:=⟨_,rfl⟩
     obtain⟨b,_,dP⟩:=(HA.out.1.later (aa gd.out tr.out)).arg (by rw[← Gq.out];exact hqn) fH;have c0:=dP.c0;have Jg:=(HA.out.1.later (aa gd.out tr.out)).lt;have pq:Hid ((!Pl.has (row.map (cP fs)) f.nm&&iz ms s.kind f.nm (row.map (cP fs)))=jh rd row q):=by
      have:=sb HA.out.2.2.1 ms s.kind HA.out.2.2.2 (row:=row) (fun p hp=>by rw[po.out]at hp;rw[← Gq.out];exact kH rd n j p hp) (i:=q) (by rw[← Gq.out];exact hqn);unfold cP at this;rw[← fH]at this;have e:=Ce.out;rw[e];exact this
     have JP:Hid (jh rd row q=false→q+1≤iB rd n row):=fun e=>ig _ _ q (by simpa using hqn) HN.out (by simpa [hqn]using e);have MM:Hid (jh rd row q=true→iB rd n row=q):=fun e=>iV _ _ q (by simpa using hqn) HN.out (by simpa [hqn]using e);have Ci:Hid (∀ W,Bel wq W→Calls Tryz.prog 164 #[.slice a row.length c,.string f.nm] W fun e w'=>e=.returned (.bool (Pl.has (row.map (cP fs)) f.nm))∧W=w'):=fun W ml=>Fc _ _ f.nm W ((HO.out.later (aa kB.out ml)).at_ (by rw[List.length_map];have:=zj.out;omega));have vk:Hid (Calls Tryz.prog 165 #[.slice (some ⟨mb,0,none⟩) ms.length ms.length,.string s.kind,.string f.nm,.slice a row.length c] wq fun e w'=>e=.returned (.bool (iz ms s.kind f.nm (row.map (cP fs))))∧Bel wq w'):=wG mb ms s.kind f.nm a _ c _ wq (HA.out.2.1.later (aa gd.out tr.out)) ((HO.out.later kB.out).at_ (by rw[List.length_map];have:=zj.out;omega));have MC:Hid (f.nm=cP fs q):=by show _=_;rw[fH];rfl
     obtain⟨ha,Ju⟩:∃ ha,ha=Pl.has (row.map (cP fs)) f.nm:=⟨_,rfl⟩
     obtain⟨rn,JR⟩:∃ rn,rn=iz ms s.kind f.nm (row.map (cP fs)):=⟨_,rfl⟩
     rw[← Ju]at pq Ci;rw[← JR]at pq vk;clear dP fH Ju JR;go_wp2_with fail
     refine(Ci.out _ br).mono ?_;rintro e w' ⟨rfl,rfl⟩;cases ha
     ·go_wp2_with fail
      refine vk.out.mono ?_;rintro e w3 ⟨rfl,aO⟩;have fO:=hid (aa kB.out aO);clear aO k0 k1 c0 Jg th;cases rn
      ·have HM:=JP.out (by rw[← pq.out];rfl);have BD:=hid HM;clear HM;go_wp2;go_roundw
       case rel=>exact⟨rfl,q+1,by omega,by go_num,BD.out,fO.out⟩
       case measure=>simp[intOf];omega
      ·have pI:Hid (cx rd n (j+1)=row++[q]):=by
        have e:=MM.out (by rw[← pq.out];rfl);have:=mD rd n j (by rw[← po.out,e];exact hqn);rw[← po.out,e]at this;exact this
       have F6:=zj.out;have eU:=(aa HW.out fO.out).size;go_wp2_with (at_builtin;refine wpList_append_own _ rfl _ _ 94 rfl wb.heap.size 9 i0 (.string ByteArray.empty) 1 16 Tryz.underlying94 hi mR jr gX rfl (by decide) (.slice a row.length c) row.length ((row.map (cP fs)).map Value.string) rfl ?c0 ⟨w3.heap.size,0,none⟩ 1 1 [.string f.nm] rfl ?c1 ?c2 ?c3 ?c4 ?c5 ?c6 ?_)
       case c0=>
        have:=HO.out.2;rw[List.length_map]at this;exact bV this (aa fO.out (ab br _))
       case c1=>rfl
       case c2=>intro k u hk;cases k with|zero=>(simp at hk;subst hk;simp[Addr.add])|succ k=>simp at hk
       case c3=>intro u hu;simp at hu;subst hu;rfl
       case c4=>unfold maxLen;omega
       case c5=>omega
       case c6=>simp;omega
       intro v' w4 cq ct _;obtain⟨a4,d4,M7⟩:=dS cq;subst M7;have Kt:Hid (dq w4 wb.heap.size (.slice a4 (row.length+1) d4) ((row++[q]).map (cP fs))):=by
        refine dq.of ?_ (by simp);rw[List.length_map,List.length_append,List.map_append,List.map_append,List.map_map];rw[MC.out]at cq;exact cq
       have aZ:Hid (Bel wb w4):=by
        have hb:=ab (aa HW.out fO.out) (.cells #[.string f.nm] 9);exact Below.grown hb ct hb.size (fun k hk=>(World.ownsRow.lt (HO.out.later fO.out).2 k hk).1)
       clear cq ct;go_wp2;go_roundw
       case rel=>first|exact⟨j+1,a4,d4,by omega,by go_num,by rw[pI.out,List.length_append];rfl,by rw[pI.out];exact Kt.out,aZ.out⟩|((repeat apply Exists.intro);exact⟨⟨j+1,a4,d4,by omega,by go_num,by rw[pI.out,List.length_append];rfl,by rw[pI.out];exact Kt.out,aZ.out⟩,rfl⟩)
       case measure=>simp[intOf];omega
     ·have BD:=hid (JP.out (by rw[← pq.out];rfl));go_wp2;go_roundw
      case rel=>exact⟨rfl,q+1,by omega,by go_num,BD.out,kB.out⟩
      case measure=>simp[intOf];omega
    ·have pI:Hid (cx rd n (j+1)=row):=by
      show cx rd n (j+1)=row;rw[cx,← po.out,if_neg (by have:=HN.out;omega)]
     go_wp2;go_roundw
     case rel=>first|exact⟨j+1,a,c,by omega,by go_num,by rw[pI.out],by rw[pI.out];exact HO.out.later kB.out,tr.out⟩|((repeat apply Exists.intro);exact⟨⟨j+1,a,c,by omega,by go_num,by rw[pI.out],by rw[pI.out];exact HO.out.later kB.out,tr.out⟩,rfl⟩)
     case measure=>simp[intOf];omega
  ·obtain rfl:j=n:=by omega
   go_wp2;go_ret;rw[← po.out];exact⟨⟨a,c,rfl,HO.out.at_ (by rw[List.length_map];have:=zj.out;omega)⟩,aa gd.out HW.out⟩
set_option maxRecDepth 8000
set_option maxHeartbeats 40000000
open Go.RowKit Go.Deep
structure VAt (w:World) (g:Nat) (vs:List ByteArray):Prop where
 lt:g<w.heap.size
 len:vs.length≤1048576
 at_:∀ i,i<vs.length→w.cell? ⟨g,i,none⟩=some (.string (vs.getD i ByteArray.empty))
theorem VAt.later {w w':World} {g:Nat} {vs:List ByteArray} (h:VAt w g vs) (hb:Bel w w'):VAt w' g vs:=
 ⟨lo h.lt hb.size,h.len,fun i hi=>(hb.cell (p:=⟨g,i,none⟩) h.lt).trans (h.at_ i hi)⟩
def kT (vs:List ByteArray) (n:lv):Bool:=if n.anyth then !(vs.getD n.place ByteArray.empty).toList.isEmpty else ((vs.getD n.place ByteArray.empty).toList==n.is_.toList)
def fL (p:Nat) (vs:List ByteArray) (x:Mng):Bool:=decide (x.field=p)&&x.needs.all (kT vs)
def du (L:List Mng) (p:Nat) (vs:List ByteArray):Nat:=L.findIdx (fL p vs)
def jo (x:Mng) (vs:List ByteArray):ByteArray:=if x.put.toList.isEmpty then vs.getD x.frm ByteArray.empty else x.put
theorem Lt (n:lv) (g cap:Nat) (vs:List ByteArray) (w:World) (h:VAt w g vs) (hp:n.place<vs.length):
  Calls Tryz.prog 218 #[.agg #[.int .i64 (n.place:Nat),.bool n.anyth,.string n.is_],.slice (some ⟨g,0,none⟩) vs.length cap] w fun e w'=>e=.returned (.bool (kT vs n))∧Bel w w':=by
 have hg:=h.lt;have hl:=h.len;have hc:∀ o,(w.alloc o).cell? ⟨g,n.place,none⟩=some (.string (vs.getD n.place ByteArray.empty)):=fun o=>(World.cell?_alloc_past _ _ _ hg).trans (h.at_ _ hp);have vv:=h.at_ _ hp;have HM:Hid (kT vs n=if n.anyth then !(vs.getD n.place ByteArray.empty).toList.isEmpty else ((vs.getD n.place ByteArray.empty).toList==n.is_.toList)):=rfl;obtain⟨v,hv⟩:∃ v,v=vs.getD n.place ByteArray.empty:=⟨_,rfl⟩
 rw[← hv]at hc HM vv;clear h hv;cases ha:n.anyth
 ·have BD:Hid (kT vs n=(v.toList==n.is_.toList)):=by show _=_;rw[HM.out,ha];rfl
  clear HM;go_enter Tryz.func218,Tryz.ntmps218
  go_wp2_with fail
  go_quiet (fail)
  go_wp2;go_ret;exact⟨by rw[BD.out];rfl,by repeat(first|exact br|refine al ?_ _|refine ab ?_ _)⟩
 ·have BD:Hid (kT vs n= !v.toList.isEmpty):=by show _=_;rw[HM.out,ha];rfl
  clear HM;go_enter Tryz.func218,Tryz.ntmps218
  go_wp2;go_ret;exact⟨by rw[BD.out];rfl,ab br _⟩
theorem Fq (f:Nat) (a:Option Addr) (k c:Nat) (pt:ByteArray) (fr:Nat) (g cap:Nat) (vs:List ByteArray) (w:World) (h:VAt w g vs) (hp:pt.toList.isEmpty=true→fr<vs.length):
  Calls Tryz.prog 208 #[.agg #[.int .i64 (f:Nat),.slice a k c,.string pt,.int .i64 (fr:Nat)],.slice (some ⟨g,0,none⟩) vs.length cap] w fun e w'=>e=.returned (.string (if pt.toList.isEmpty then vs.getD fr ByteArray.empty else pt))∧Bel w w':=by
 have hg:=h.lt;have hl:=h.len;cases he:pt.toList.isEmpty
 ·go_enter Tryz.func208,Tryz.ntmps208
  go_wp2;go_ret;exact⟨rfl,ab br _⟩
 ·have hp:=hp he;have hc:∀ o,(w.alloc o).cell? ⟨g,fr,none⟩=some (.string (vs.getD fr ByteArray.empty)):=fun o=>(World.cell?_alloc_past _ _ _ hg).trans (h.at_ _ hp);have vv:=h.at_ _ hp;obtain⟨v,hv⟩:∃ v,v=vs.getD fr ByteArray.empty:=⟨_,rfl⟩
  rw[← hv]at hc vv;rw[← hv];clear h hv;go_enter Tryz.func208,Tryz.ntmps208
  go_wp2;go_ret;exact⟨rfl,ab br _⟩
theorem oG {L:List Mng} {p:Nat} {vs:List ByteArray} {q:Nat} (hq:q<L.length) (h:q≤du L p vs) (hd:fL p vs (L.getD q Mng.none)=false):q+1≤du L p vs:=by
 rcases Nat.lt_or_eq_of_le h with h|h
 ·exact h
 ·exfalso;have e:L.getD q Mng.none=L[q]:=by simp[hq]
  have:=List.findIdx_getElem (xs:=L) (p:=fL p vs) (w:=by unfold du at h;rw[← h];exact hq);rw[e]at hd;unfold du at h;simp only[← h]at this;rw[hd]at this;cases this
theorem xj {L:List Mng} {p:Nat} {vs:List ByteArray} {q:Nat} (hq:q<L.length) (h:q≤du L p vs) (hd:fL p vs (L.getD q Mng.none)=true):du L p vs=q:=by
 have e:L.getD q Mng.none=L[q]:=by simp[hq]
 rw[e]at hd;have:du L p vs≤q:=by
  rcases Nat.lt_or_ge q (du L p vs) with av|Ii
  ·have:=List.not_of_lt_findIdx av;rw[hd]at this;cases this
  ·exact Ii
 omega
theorem yc (a:Option Addr) (c p g cap:Nat) (L:List Mng) (vs:List ByteArray) (w:World) (hL:fh w (.slice a L.length c) L) (hl:L.length≤12) (h2:∀ x∈L,x.needs.length≤2) (hp:∀ x∈L,∀ n∈x.needs,n.place<vs.length) (h:VAt w g vs):
  Calls Tryz.prog 207 #[.slice a L.length c,.int .i64 (p:Nat),.slice (some ⟨g,0,none⟩) vs.length cap] w fun e w'=>(∃ (f:Nat) (a:Option Addr) (k c:Nat) (pt:ByteArray) (fr:Nat),e=.returned (.tuple #[.agg #[.int .i64 (f:Nat),.slice a k c,.string pt,.int .i64 (fr:Nat)],.bool (decide (du L p vs<L.length))])∧(du L p vs<L.length→pt=(L.getD (du L p vs) Mng.none).put∧fr=(L.getD (du L p vs) Mng.none).frm))∧Bel w w':=by
 have HH:=hid (And.intro hL (And.intro h2 (And.intro hp h)));clear hL h2 hp h;go_enter Tryz.func207,Tryz.ntmps207
 go_wp2;go_step3
 go_wp2;go_step3
 go_wp2;go_loopw [9,11,14] (fun s9 s11 s14 wr=>∃ q:Nat,q≤L.length∧s14=.int .i64 q∧q≤du L p vs∧Bel w wr∧ai wr w.heap.size 238 4) (fun _ _ s14 _=>L.length - (intOf s14).toNat)
 case atStart=>exact⟨0,nz,rfl,nz,ab br _,ai.alloc w _ _ _ rfl⟩
 case round=>
  obtain⟨q,hq,rfl,hqd,hW,hO⟩:=hrel;rename World=>wo;have HQ:=hid hqd;have HO:=hid hO;have HW:=hid hW;clear hqd hO;by_cases av:q<L.length
  ·rcases HH.out.1 with⟨e0,_⟩|⟨gm,cm,e0,J7,hms⟩
   ·rw[e0]at av;exact absurd av (Nat.not_lt_zero q)
   injection e0 with e1 _ e3
   subst e1 e3;obtain⟨x,hx⟩:∃ x,x=L.getD q Mng.none:=⟨_,rfl⟩
   obtain⟨ax,dx,EP⟩:=hms q av;rw[← hx]at EP;have HX:=hid (And.intro hx (And.intro (HH.out.2.1 x (by rw[hx];simp[av])) (HH.out.2.2.1 x (by rw[hx];simp[av]))));have LO:=hid EP.needs;have Mt:=EP.later hW J7;obtain⟨c0,c1,c2,c3,_⟩:=Mt;have zf:=lo J7 hW.size;clear EP hms hx;by_cases heq:(x.field:Int)=(p:Int)
   case neg=>
    have HD:=hid (oG av HQ.out (by rw[← HX.out.1];unfold fL;rw[decide_eq_false (by omega)];rfl));go_wp2;go_roundw
    case rel=>exact⟨q+1,by omega,by go_num,HD.out,ab HW.out _,HO.out.later (ab br _)⟩
    case measure=>simp[intOf];omega
   obtain rfl:p=x.field:=by omega
   clear heq;have Ih:=HX.out.2.1;obtain⟨w1,eb⟩:∃ w1,w1=wo.alloc (.cells #[.int .i64 (x.field:Nat),.slice ax x.needs.length dx,.string x.put,.int .i64 (x.frm:Nat)] 238):=⟨_,rfl⟩
   have HW1:Hid (Bel w w1):=by show Below _ _ _;rw[eb];exact ab HW.out _
   have EN:Hid (ai w1 w.heap.size 238 4):=by show ai _ _ _ _;rw[eb];exact HO.out.later (ab br _)
   have lH:Hid (wo.heap.size<w1.heap.size∧w1.cell? ⟨wo.heap.size,0,none⟩=some (.int .i64 (x.field:Nat))∧w1.cell? ⟨wo.heap.size,1,none⟩=some (.slice ax x.needs.length dx)∧w1.cell? ⟨wo.heap.size,2,none⟩=some (.string x.put)∧w1.cell? ⟨wo.heap.size,3,none⟩=some (.int .i64 (x.frm:Nat))):=by
    show _∧_∧_∧_∧_;rw[eb];exact⟨by simp,World.cell?_alloc_at _ _ _ _ rfl,World.cell?_alloc_at _ _ _ _ rfl,World.cell?_alloc_at _ _ _ _ rfl,World.cell?_alloc_at _ _ _ _ rfl⟩
   go_upto_region 4 with fail
   rw[← eb];clear eb c0 c1 c2 c3 zf;obtain⟨mz,m0,m1,m2,m3⟩:=lH.out;go_wp2;clear mz m0 m1 m2 m3;go_loopw [11,25] (fun s11 s25 wq=>∃ j:Nat,j≤x.needs.length∧s25=.int .i64 j∧(x.needs.take j).all (kT vs)=true∧Bel w1 wq) (fun _ s25 _=>x.needs.length - (intOf s25).toNat)
   case atStart=>exact⟨0,nz,rfl,rfl,br⟩
   case round=>
    obtain⟨j,hj,rfl,aw,Cg⟩:=hrel;rename World=>wq;have HA:=hid aw;have xe:=hid (aa HW1.out Cg);have kB:=hid Cg;clear aw;by_cases pH:j<x.needs.length
    ·rcases LO.out with⟨e0,_⟩|⟨g2,c2,e0,xb,bP⟩
     ·rw[e0]at pH;exact absurd pH (Nat.not_lt_zero j)
     injection e0 with e1 e2 e3
     subst e1 e3;obtain⟨d0,d1,d2⟩:=bP j pH;have d0:=(xe.out.cell (p:=⟨g2,j*3,none⟩) xb).trans d0;have d1:=(xe.out.cell (p:=⟨g2,j*3+1,none⟩) xb).trans d1;have d2:=(xe.out.cell (p:=⟨g2,j*3+2,none⟩) xb).trans d2;obtain⟨y,hy⟩:∃ y,y=x.needs.getD j ⟨0,false,ByteArray.empty⟩:=⟨_,rfl⟩
     rw[← hy]at d0 d1 d2;have hgq:=lo xb xe.out.size;have KQ:y=x.needs[j]:=by rw[hy];simp[pH]
     have HY:Hid ((x.needs.take (j+1)).all (kT vs)=kT vs y):=by
      show (x.needs.take (j+1)).all (kT vs)=kT vs y;rw[List.take_succ_eq_append_getElem pH,List.all_append,HA.out,KQ];simp
     have HC:Hid (∀ o,Calls Tryz.prog 218 #[.agg #[.int .i64 (y.place:Nat),.bool y.anyth,.string y.is_],.slice (some ⟨g,0,none⟩) vs.length cap] (wq.alloc o) fun e w'=>e=.returned (.bool (kT vs y))∧Below (wq.alloc o).heap.size (wq.alloc o) w'):=fun o=>Lt y g cap vs _ ((HH.out.2.2.2.later xe.out).later (ab br _)) (HX.out.2.2 y (by rw[KQ];exact List.getElem_mem pH));have vG:Hid (kT vs y=false→x.needs.all (kT vs)=false):=by
      intro hf;rw[List.all_eq_false];exact⟨y,by rw[KQ];exact List.getElem_mem pH,by rw[hf];simp⟩
     obtain⟨mb,qE⟩:∃ mb,mb=kT vs y:=⟨_,rfl⟩
     rw[← qE]at HY HC vG;clear qE hy KQ bP Cg;go_wp2_with fail
     refine(HC.out _).mono ?_;rintro e w3 ⟨rfl,aO⟩;have yZ:Hid (Bel wq w3):=aa (ab br _) aO;clear aO d0 d1 d2 HC;cases mb
     ·have HD:=hid (oG av HQ.out (by rw[← HX.out.1];unfold fL;rw[vG.out rfl];simp));have KR:=hid ((EN.out.later kB.out).later yZ.out);go_wp2;go_roundw
      case rel=>first|exact⟨q+1,by omega,by go_num,HD.out,aa xe.out yZ.out,KR.out⟩|((repeat apply Exists.intro);exact⟨⟨q+1,by omega,by go_num,HD.out,aa xe.out yZ.out,KR.out⟩,rfl⟩)
      case measure=>simp[intOf];omega
     ·go_wp2;go_roundw
      case rel=>first|exact⟨j+1,by omega,by go_num,HY.out,aa kB.out yZ.out⟩|((repeat apply Exists.intro);exact⟨⟨j+1,by omega,by go_num,HY.out,aa kB.out yZ.out⟩,rfl⟩)
      case measure=>simp[intOf];omega
    ·have HD:Hid (du L x.field vs=q):=xj av HQ.out (by
      have:=HA.out;rw[List.take_of_length_le (by omega)]at this;rw[← HX.out.1];unfold fL;rw[this];simp)
     have Gz:=hid (EN.out.later kB.out);have k:=fun j=>kB.out.cell (p:=⟨wo.heap.size,j,none⟩) lH.out.1;have m0:=(k 0).trans lH.out.2.1;have m1:=(k 1).trans lH.out.2.2.1;have m2:=(k 2).trans lH.out.2.2.2.1;have m3:=(k 3).trans lH.out.2.2.2.2;have mz:=lo lH.out.1 kB.out.size;clear k;have ij:=Gz.out.frozen;have hz:=Gz.out.lt;obtain⟨z0,e0⟩:=Gz.out.cell 0 (by omega);obtain⟨z1,e1⟩:=Gz.out.cell 1 (by omega);obtain⟨z2,e2⟩:=Gz.out.cell 2 (by omega);obtain⟨z3,e3⟩:=Gz.out.cell 3 (by omega);go_wp2;have t:=fun i hi=>cB 0 [.int .i64 (x.field:Nat),.slice ax x.needs.length dx,.string x.put,.int .i64 (x.frm:Nat)] wq 0 Gz.out (by simp) i hi;have t0:=t 0 (by simp);have t1:=t 1 (by simp);have t2:=t 2 (by simp);have t3:=t 3 (by simp);have Na:Hid (Bel w (aI wq w.heap.size 0 0 [.int .i64 (x.field:Nat),.slice ax x.needs.length dx,.string x.put,.int .i64 (x.frm:Nat)])):=aY (a:=w) _ nr _ _ _ xe.out;simp only[aI,Nat.add_zero,Nat.zero_add,Nat.reduceAdd,List.getElem?_cons_zero,List.getElem?_cons_succ]at t0 t1 t2 t3;try rw[Exit.noGoto_ret]
     refine bodyPost_ret (v:=.tuple #[.agg #[.int .i64 (x.field:Nat),.slice ax x.needs.length dx,.string x.put,.int .i64 (x.frm:Nat)],.bool true]) (by simp[results,Tryz.results207,go_sem,t0,t1,t2,t3]) rfl ⟨⟨x.field,ax,x.needs.length,dx,x.put,x.frm, ?_,fun _=> ?_⟩, ?_⟩
     ·rw[HD.out,decide_eq_true av]
     ·rw[HD.out,← HX.out.1];exact⟨rfl,rfl⟩
     ·exact Na.out
  ·have HD:Hid (decide (du L p vs<L.length)=false):=by have:=HQ.out;show decide _=false;rw[decide_eq_false];omega
   have ij:=HO.out.frozen;have hz:=HO.out.lt;obtain⟨z0,e0⟩:=HO.out.cell 0 (by omega);obtain⟨z1,e1⟩:=HO.out.cell 1 (by omega);obtain⟨z2,e2⟩:=HO.out.cell 2 (by omega);obtain⟨z3,e3⟩:=HO.out.cell 3 (by omega);go_wp2;have t:=fun i hi=>cB 0 [.int .i64 0,.slice none 0 0,.string ⟨#[]⟩,.int .i64 0] wo 0 HO.out (by simp) i hi;have t0:=t 0 (by simp);have t1:=t 1 (by simp);have t2:=t 2 (by simp);have t3:=t 3 (by simp);have Na:Hid (Bel w (aI wo w.heap.size 0 0 [.int .i64 0,.slice none 0 0,.string ⟨#[]⟩,.int .i64 0])):=aY (a:=w) _ nr _ _ _ HW.out;simp only[aI,Nat.add_zero,Nat.zero_add,Nat.reduceAdd,List.getElem?_cons_zero,List.getElem?_cons_succ]at t0 t1 t2 t3;try rw[Exit.noGoto_ret]
   refine bodyPost_ret (v:=.tuple #[.agg #[.int .i64 0,.slice none 0 0,.string ⟨#[]⟩,.int .i64 0],.bool false]) (by simp[results,Tryz.results207,go_sem,t0,t1,t2,t3]) rfl ⟨⟨0,none,0,0,⟨#[]⟩,0, ?_,fun hh=> ?_⟩, ?_⟩
   ·rw[HD.out];rfl
   ·rw[decide_eq_true hh]at HD;exact absurd HD.out (by simp)
   ·exact Na.out
set_option maxRecDepth 8000
set_option maxHeartbeats 40000000
open Go.RowKit Go.Deep
theorem mc {ss:List Shp} {ms:List Mnd} {k:Nat} (h:eM ss ms k=true) (ha:dA ss (ms.getD k Mnd.none)=true):eM ss ms (k+1)=true:=by
 unfold eM at h ⊢;rw[Pl.ib,h,ha];rfl
theorem mZ {ss:List Shp} {ms:List Mnd} {k:Nat} (h:gY ss ms k=true) (ha:fI ms (ss.getD k Shp.none)=true):gY ss ms (k+1)=true:=by
 unfold gY at h ⊢;rw[Pl.ib,h,ha];rfl
theorem qu {ss:List Shp} {ms:List Mnd} {k:Nat} (hk:k<ms.length) (h:dA ss (ms.getD k Mnd.none)=false):aU ss ms=false:=by
 unfold aU eM;rw[Pl.gl _ _ k hk h];simp
theorem qq {ss:List Shp} {ms:List Mnd} {k:Nat} (hk:k<ss.length) (h:fI ms (ss.getD k Shp.none)=false):aU ss ms=false:=by
 unfold aU gY;rw[Pl.gl _ _ k hk h];simp
theorem Ai (B mb:Nat) (ss:List Shp) (ms:List Mnd) (w:World) (h:bh w B ss) (hm:dv w mb ms):
  Calls Tryz.prog 59 #[.slice (some ⟨B,0,none⟩) ss.length ss.length,.slice (some ⟨mb,0,none⟩) ms.length ms.length] w fun e w'=>e=.returned (.bool (aU ss ms))∧Bel w w':=by
 have HA:Hid (bh w B ss∧dv w mb ms):=⟨h,hm⟩
 have hl:=h.len;have Hr:=hm.len;clear h hm;go_enter Tryz.func59,Tryz.ntmps59
 go_wp2_with fail
 refine(yl B ss w HA.out.1).mono ?_;rintro e w1 ⟨rfl,bl⟩;have cQ:Hid (Bel w w1):=bl;clear bl;cases fN:aN ss
 ·have HR:Hid (aU ss ms=false):=by show _=_;unfold aU;rw[fN];rfl
  go_wp2;go_ret;exact⟨Pl.ae HR.out.symm,cQ.out⟩
 have vO:Hid (aN ss=true):=fN;clear fN;by_cases jF:ms.length≤12
 case neg=>
  have HR:Hid (aU ss ms=false):=by show _=_;unfold aU;simp[jF]
  go_wp2;go_ret;exact⟨Pl.ae HR.out.symm,cQ.out⟩
 go_wp2;go_loopw [5] (fun i wr=>∃ k:Nat,k≤ms.length∧i=.int .i64 k∧eM ss ms k=true∧Bel w wr) (fun i _=>ms.length - (intOf i).toNat)
 case atStart=>exact⟨0,nz,rfl,rfl,cQ.out⟩
 case round=>
  obtain⟨k,hk,rfl,aw,hW⟩:=hrel;have HM:Hid (eM ss ms k=true):=aw;have HW:Hid (Bel w wr):=hW;clear aw;by_cases av:k<ms.length
  ·have iL:=(HA.out.2.later hW).at_ k av;obtain⟨m,g9⟩:∃ m,m=ms.getD k Mnd.none:=⟨_,rfl⟩
   rw[← g9]at iL;have qE:mb<wr.heap.size:=(HA.out.2.later hW).lt;have HX:Hid (Calls Tryz.prog 116 #[.slice (some ⟨B,0,none⟩) ss.length ss.length,.agg #[.string m.kind,.string m.field,.string m.whn,.string m.is_,.string m.put,.string m.frm]] wr fun e w'=>e=.returned (.bool (dA ss m))∧Bel wr w'):=Dr B ss m wr (HA.out.1.later hW) vO.out iL.sized;obtain⟨c0,c1,c2,c3,c4,c5,_⟩:=iL;have HS:Hid (dA ss m=true→eM ss ms (k+1)=true):=fun e=>mc HM.out (by rw[← g9];exact e);have HF:Hid (dA ss m=false→aU ss ms=false):=fun e=>qu av (by rw[← g9];exact e);clear g9 hW;go_wp2_with fail
   refine HX.out.mono ?_;rintro e w3 ⟨rfl,aO⟩;have fO:Hid (Bel w w3):=aa HW.out aO;clear aO c0 c1 c2 c3 c4 c5 qE;cases hr:dA ss m
   ·have HR:Hid (aU ss ms=false):=HF.out hr;go_wp2;go_ret;exact⟨Pl.ae HR.out.symm,fO.out⟩
   ·have HR:Hid (eM ss ms (k+1)=true):=HS.out hr;go_wp2;go_roundw
    case rel=>exact⟨k+1,by omega,by go_num,HR.out,fO.out⟩
    case measure=>simp[intOf];omega
  ·obtain rfl:k=ms.length:=by omega
   clear hW;go_wp2;go_loopw [6] (fun i wr=>∃ q:Nat,q≤ss.length∧i=.int .i64 q∧gY ss ms q=true∧Bel w wr) (fun i _=>ss.length - (intOf i).toNat)
   case atStart=>exact⟨0,nz,rfl,rfl,HW.out⟩
   case round=>
    obtain⟨q,hq,rfl,tp,hW⟩:=hrel;rename World=>wq;have KE:Hid (gY ss ms q=true):=tp;have kB:Hid (Bel w wq):=hW;clear tp;by_cases hqn:q<ss.length
    ·obtain⟨s,hs⟩:∃ s,s=ss.getD q Shp.none:=⟨_,rfl⟩
     obtain⟨b,jg,_,c0,c1⟩:=(HA.out.1.later hW).uV hqn hs;have Cm:Hid (aH ss s.fields=true):=by show _=_;rw[hs];exact iT vO.out hqn
     have GG:Hid (∀ m∈ms,bm s.kind m=true→found s.fields m):=by rw[hs];exact me vO.out HM.out hqn
     have GQ:=jO Cm.out;have HX:Hid (∀ W,Bel wq W→Calls Tryz.prog 117 #[.agg #[.string s.kind,.slice (some ⟨b,0,none⟩) s.fields.length s.fields.length],.slice (some ⟨mb,0,none⟩) ms.length ms.length] W fun e w'=>(∃ a c,e=.returned (.slice a (cx (rdM s.fields ms s.kind) s.fields.length s.fields.length).length c))∧Bel W w'∧w'.cell? ⟨B,q*2+1,none⟩=some (.slice (some ⟨b,0,none⟩) s.fields.length s.fields.length)∧B<w'.heap.size):=by
      intro W ml;refine(EX ss s b mb ms W (jg.later ml) (HA.out.2.later (aa kB.out ml)) Cm.out GG.out).mono ?_;rintro e w' ⟨⟨a,c,rfl,_⟩,hb⟩;exact⟨⟨_,_,rfl⟩,hb,((aa ml hb).cell (p:=⟨B,q*2+1,none⟩) (HA.out.1.later kB.out).lt).trans c1,lo (HA.out.1.later kB.out).lt (aa ml hb).size⟩
     have GN:B<wq.heap.size:=(HA.out.1.later hW).lt;have HS:Hid (fI ms s=true→gY ss ms (q+1)=true):=fun e=>mZ KE.out (by rw[← hs];exact e);have HF:Hid (fI ms s=false→aU ss ms=false):=fun e=>qq hqn (by rw[← hs];exact e);obtain⟨rl,F6⟩:∃ rl,rl=(cx (rdM s.fields ms s.kind) s.fields.length s.fields.length).length:=⟨_,rfl⟩
     have hrl6:rl≤6:=by have:=jM (rdM s.fields ms s.kind) s.fields.length s.fields.length;omega
     have zj:Hid (fI ms s=decide (rl=s.fields.length)):=by rw[F6];rfl
     rw[← F6]at HX;clear hs jg F6 hW;by_cases heq:(rl:Int)=(s.fields.length:Int)
     ·have HR:Hid (gY ss ms (q+1)=true):=HS.out (by rw[zj.out];simp;omega);go_wp2_with fail
      go_region_with (go_at_call 117;refine(HX.out _ ?_).mono ?_;(repeat(first|exact br|refine Below.drew ?_));rintro e w3 ⟨⟨a3,c3,rfl⟩,aO,d1,dB⟩)
      all_goals
       go_wp2;go_roundw
       case rel=>
        refine⟨q+1,by omega,by go_num,HR.out, ?_⟩;repeat(first|exact aa kB.out aO|exact aa kB.out.drew aO|exact aa kB.out.drew.drew aO|refine Below.drew ?_)
       case measure=>simp[intOf];omega
     ·have HR:Hid (aU ss ms=false):=HF.out (by rw[zj.out];simp;omega);go_wp2_with fail
      go_region_with (go_at_call 117;refine(HX.out _ ?_).mono ?_;(repeat(first|exact br|refine Below.drew ?_));rintro e w3 ⟨⟨a3,c3,rfl⟩,aO,d1,dB⟩)
      all_goals
       go_wp2;go_ret;refine⟨Pl.ae HR.out.symm, ?_⟩;repeat(first|exact aa kB.out aO|exact aa kB.out.drew aO|exact aa kB.out.drew.drew aO|refine Below.drew ?_)
    ·obtain rfl:q=ss.length:=by omega
     have HR:Hid (aU ss ms=true):=by show _=_;unfold aU;rw[vO.out,HM.out,KE.out];simp[jF]
     go_wp2;go_ret;exact⟨Pl.ae HR.out.symm,kB.out⟩
set_option maxRecDepth 8000
set_option maxHeartbeats 40000000
open Go.RowKit Go.Deep
theorem pW (fs:List Fld) (ms:List Mnd) (K:ByteArray):∀ x∈bz fs ms K,x.needs.length≤2:=by
 intro x hx;unfold bz at hx;rw[List.mem_map]at hx;obtain⟨m,_,rfl⟩:=hx;show (dX fs m).length≤2;unfold dX;split<;>split<;>simp
theorem rV (fs:List Fld) (ms:List Mnd) (K:ByteArray):(bz fs ms K).length≤ms.length:=by
 rw[← nO fs ms K ms.length nr];exact oN fs ms K ms.length
theorem zP (B mb:Nat) (ss:List Shp) (ms:List Mnd) (w:World) (h:bh w B ss) (hm:dv w mb ms):
  Calls Tryz.prog 81 #[.slice (some ⟨B,0,none⟩) ss.length ss.length,.slice (some ⟨mb,0,none⟩) ms.length ms.length] w fun e w'=>e=.returned (.bool (aU ss ms))∧Bel w w':=by
 have HA:=hid (And.intro h hm);have hl:=h.len;have Hr:=hm.len;clear h hm;go_enter Tryz.func81,Tryz.ntmps81
 go_wp2_with fail
 refine(yi B ss w HA.out.1).mono ?_;rintro e w1 ⟨rfl,bl⟩;have cQ:=hid bl;clear bl;cases fN:aN ss
 ·have HR:Hid (aU ss ms=false):=by show _=_;unfold aU;rw[fN];rfl
  go_wp2;go_ret;exact⟨Pl.ae HR.out.symm,cQ.out⟩
 have vO:=hid fN;clear fN;by_cases jF:ms.length≤12
 case neg=>
  have HR:Hid (aU ss ms=false):=by show _=_;unfold aU;simp[jF]
  go_wp2;go_ret;exact⟨Pl.ae HR.out.symm,cQ.out⟩
 go_wp2;go_loopw [23] (fun i wr=>∃ k:Nat,k≤ms.length∧i=.int .i64 k∧eM ss ms k=true∧Bel w wr) (fun i _=>ms.length - (intOf i).toNat)
 case atStart=>exact⟨0,nz,rfl,rfl,cQ.out⟩
 case round=>
  obtain⟨k,hk,rfl,aw,hW⟩:=hrel;have HM:=hid aw;have HW:=hid hW;clear aw;by_cases av:k<ms.length
  ·have iL:=(HA.out.2.later hW).at_ k av;obtain⟨m,g9⟩:∃ m,m=ms.getD k Mnd.none:=⟨_,rfl⟩
   rw[← g9]at iL;have qE:=(HA.out.2.later hW).lt;have HZ:Hid m.sized:=iL.sized;obtain⟨c0,c1,c2,c3,c4,c5,_⟩:=iL;have HS:Hid (dA ss m=true→eM ss ms (k+1)=true):=fun e=>mc HM.out (by rw[← g9];exact e);have HF:Hid (dA ss m=false→aU ss ms=false):=fun e=>qu av (by rw[← g9];exact e);have HO:Hid (ai (wr.alloc (.cells #[.string m.kind,.string m.field,.string m.whn,.string m.is_,.string m.put,.string m.frm] 136)) wr.heap.size 136 6∧ga (wr.alloc (.cells #[.string m.kind,.string m.field,.string m.whn,.string m.is_,.string m.put,.string m.frm] 136)) wr.heap.size 0 m):=⟨ai.alloc wr _ 136 6 rfl,⟨by simp,by simp,by simp,by simp,by simp,by simp,HZ.out⟩⟩
   have qI:Hid (Bel w (wr.alloc (.cells #[.string m.kind,.string m.field,.string m.whn,.string m.is_,.string m.put,.string m.frm] 136))):=ab HW.out _;clear g9 hW;go_wp2_with fail
   refine(jL w B ss m.kind _ HA.out.1 qI.out).mono ?_;rintro e w2 ⟨kd,a,n,c,rfl,kS,aA⟩;have iH:=hid (aa qI.out aA);have F8:=hid (And.intro (HO.out.1.later aA) (HO.out.2.later aA HO.out.1.lt));have nA:=hid kS;have gX:=F8.out.1.lt;have m0:=F8.out.2.c0;have m1:=F8.out.2.c1;have m2:=F8.out.2.c2;have m3:=F8.out.2.c3;have m4:=F8.out.2.c4;have m5:=F8.out.2.c5;clear aA kS c0 c1 c2 c3 c4 c5 qE HO qI;cases yT:aK ss m.kind
   ·have HR:=hid (HF.out (by unfold dA;rw[yT];rfl));go_wp2;go_ret;exact⟨Pl.ae HR.out.symm,ab iH.out _⟩
   obtain⟨e1,b,e2,gW,ea⟩:=nA.out yT;have tF:aB ss m.kind<ss.length:=by unfold aK at yT;exact of_decide_eq_true yT
   obtain⟨s,hs⟩:∃ s,s=ss.getD (aB ss m.kind) Shp.none:=⟨_,rfl⟩
   rw[← hs]at e1 e2 ea;subst e1;injection e2 with e2 e3 e4
   subst e2 e3 e4;have dQ:s.small:=HA.out.1.small s (by rw[hs];simp[tF]);have rG:Hid (bW w b s.fields):=⟨gW,dQ.1,dQ.2,ea⟩
   have HE:Hid (dA ss m=aR s.fields m):=by show _=_;unfold dA;rw[yT,← hs];rfl
   have jg:=dQ.1;clear hs dQ ea gW tF nA;go_wp2_with fail
   refine(CQ b s.fields m _ (rG.out.later (ab iH.out _)) HZ.out).mono ?_;rintro e w3 ⟨rfl,aO⟩;have fO:Hid (Bel w w3):=aa (ab iH.out _) aO;clear aO m0 m1 m2 m3 m4 m5;cases hr:aR s.fields m
   ·have HR:=hid (HF.out (by rw[HE.out];exact hr));go_wp2;go_ret;exact⟨Pl.ae HR.out.symm,fO.out⟩
   ·have HR:=hid (HS.out (by rw[HE.out];exact hr));go_wp2;go_roundw
    case rel=>exact⟨k+1,by omega,by go_num,HR.out,fO.out⟩
    case measure=>simp[intOf];omega
  ·obtain rfl:k=ms.length:=by omega
   clear hW;go_wp2;go_loopw [46] (fun i wr=>∃ q:Nat,q≤ss.length∧i=.int .i64 q∧gY ss ms q=true∧Bel w wr) (fun i _=>ss.length - (intOf i).toNat)
   case atStart=>exact⟨0,nz,rfl,rfl,HW.out⟩
   case round=>
    obtain⟨q,hq,rfl,tp,hW⟩:=hrel;rename World=>wq;have KE:=hid tp;have kB:=hid hW;clear tp;by_cases hqn:q<ss.length
    ·obtain⟨s,hs⟩:∃ s,s=ss.getD q Shp.none:=⟨_,rfl⟩
     obtain⟨b,jg,_,c0,c1⟩:=(HA.out.1.later hW).uV hqn hs;have GG:Hid (∀ m∈ms,bm s.kind m=true→found s.fields m):=by rw[hs];exact me vO.out HM.out hqn
     have GQ:s.fields.length≤6:=by rw[hs];exact jO (iT vO.out hqn)
     have GN:=(HA.out.1.later hW).lt;have HS:Hid (fI ms s=true→gY ss ms (q+1)=true):=fun e=>mZ KE.out (by rw[← hs];exact e);have HF:Hid (fI ms s=false→aU ss ms=false):=fun e=>qq hqn (by rw[← hs];exact e);have HX:Hid (∀ W,Bel wq W→wq.heap.size<W.heap.size→W.cell? ⟨wq.heap.size,0,none⟩=some (.string s.kind)→W.cell? ⟨wq.heap.size,1,none⟩=some (.slice (some ⟨b,0,none⟩) s.fields.length s.fields.length)→Calls Tryz.prog 135 #[.agg #[.string s.kind,.slice (some ⟨b,0,none⟩) s.fields.length s.fields.length],.slice (some ⟨mb,0,none⟩) ms.length ms.length] W fun e w'=>
       (∃ a n c,e=.returned (.slice a n c)∧fh w' (.slice a n c) (bz s.fields ms s.kind))∧Bel W w'∧(w'.cell? ⟨wq.heap.size,0,none⟩=some (.string s.kind)∧w'.cell? ⟨wq.heap.size,1,none⟩=some (.slice (some ⟨b,0,none⟩) s.fields.length s.fields.length)∧wq.heap.size<w'.heap.size)):=by
      intro W ml hz g0 g1;refine(oh s b mb ms W (jg.later ml) (HA.out.2.later (aa kB.out ml)) GG.out).mono ?_;rintro e w' ⟨⟨a,n,c,rfl,EG⟩,hb⟩;exact⟨⟨_,_,_,rfl,EG.at_⟩,hb,(hb.cell (p:=⟨wq.heap.size,0,none⟩) hz).trans g0,(hb.cell (p:=⟨wq.heap.size,1,none⟩) hz).trans g1,lo hz hb.size⟩
     have HY:Hid (∀ a n c W,fh W (.slice a n c) (bz s.fields ms s.kind)→Calls Tryz.prog 134 #[.agg #[.string s.kind,.slice (some ⟨b,0,none⟩) s.fields.length s.fields.length],.slice a n c] W fun e w'=>(∃ a k d,e=.returned (.tuple #[.slice a k d,.bool (fI ms s)]))∧Bel W w'):=by
      intro a n c W EG;refine(so s.kind s.fields.length _ _ a n c _ W (by omega) EG (Nat.le_trans (rV _ _ _) jF) (pW _ _ _)).mono ?_;rintro e w' ⟨⟨a',k',d',rfl,_⟩,hb⟩;exact⟨⟨_,_,_,rfl⟩,hb⟩
     have qI:Hid (Bel w (wq.alloc (.cells #[.string s.kind,.slice (some ⟨b,0,none⟩) s.fields.length s.fields.length] 134))):=ab kB.out _;clear hs jg hW;obtain⟨R,hR⟩:∃ R,R=fI ms s:=⟨_,rfl⟩
     rw[← hR]at HY HS HF;clear hR;go_upto_region 13 with fail
     go_cut [12] (fun x wx=>x=.bool R∧Bel w wx)
     case first=>
      go_region_with (first
       |(go_at_call 135;refine(HX.out _ ?_ (by simp) (by simp) (by simp)).mono ?_;(repeat(first|exact br|refine Below.drew ?_|refine ab ?_ _));rintro e w3 ⟨⟨a3,n3,c3,rfl,EG⟩,aO,g0,g1,gz⟩;have fO:Hid (Bel w w3):=aa (by repeat(first|exact qI.out|refine Below.drew ?_)) aO;clear aO)
       |(go_at_call 134;refine(HY.out _ _ _ _ (fh.later EG (by repeat(first|exact br|refine Below.drew ?_)))).mono ?_;rintro e w4 ⟨⟨a4,n4,c4,rfl⟩,cA⟩))
      all_goals
       go_wp2_with fail
       go_meet
       refine⟨rfl, ?_⟩;repeat(first|exact aa fO.out cA|exact aa fO.out.drew cA|exact aa fO.out.drew.drew cA|refine Below.drew ?_)
     case rest=>
     obtain⟨rfl,cC⟩:=hcut;rename World=>w5;cases R
     ·have HR:=hid (HF.out rfl);go_wp2;go_ret;exact⟨Pl.ae HR.out.symm,cC⟩
     ·have HR:=hid (HS.out rfl);go_wp2;go_roundw
      case rel=>first|exact⟨q+1,by omega,by go_num,HR.out,cC⟩|((repeat apply Exists.intro);exact⟨⟨q+1,by omega,by go_num,HR.out,cC⟩,rfl⟩)
      case measure=>simp[intOf];omega
    ·obtain rfl:q=ss.length:=by omega
     have HR:Hid (aU ss ms=true):=by show _=_;unfold aU;rw[vO.out,HM.out,KE.out];simp[jF]
     go_wp2;go_ret;exact⟨Pl.ae HR.out.symm,kB.out⟩
end Go.Proofs.YtbiokpmdghmgcaaGreat
namespace Go.Proofs.YtbiokpmdghmgcaaGreat
open Go.RowKit Go.Deep
def dV (L:List Mng) (vs:List ByteArray) (p:Nat):List ByteArray:=if du L p vs<L.length then vs.set p (jo (L.getD (du L p vs) Mng.none) vs) else vs
def fF (L:List Mng) (vs:List ByteArray) (row:List Nat):List ByteArray:=row.foldl (dV L) vs
def mF (ss:List Shp) (ms:List Mnd) (K:ByteArray):List Mng:=bz (ss.getD (aB ss K) Shp.none).fields ms (ss.getD (aB ss K) Shp.none).kind
def rowAt (ss:List Shp) (ms:List Mnd) (K:ByteArray):List Nat:=cx (gZ (mF ss ms K)) (ss.getD (aB ss K) Shp.none).fields.length (ss.getD (aB ss K) Shp.none).fields.length
def bI (ss:List Shp) (ms:List Mnd) (K:ByteArray) (vs:List ByteArray):List ByteArray:=
 if aK ss K=true∧vs.length=(ss.getD (aB ss K) Shp.none).fields.length then fF (mF ss ms K) vs (rowAt ss ms K) else vs
theorem q7 (L:List Mng) (vs:List ByteArray) (p:Nat):(dV L vs p).length=vs.length:=by unfold dV;split<;>simp
theorem jW (L:List Mng):∀ (row:List Nat) (vs:List ByteArray),(fF L vs row).length=vs.length
 |[],_=>rfl
 |p::row,vs=>by show (fF L (dV L vs p) row).length=_;rw[jW L row,q7]
theorem qT (ss:List Shp) (ms:List Mnd) (K:ByteArray) (vs:List ByteArray):(bI ss ms K vs).length=vs.length:=by
 unfold bI;split
 ·exact jW _ _ _
 ·rfl
theorem mS (L:List Mng) (vs:List ByteArray) (row:List Nat) (k:Nat) (hk:k<row.length):fF L vs (row.take (k+1))=dV L (fF L vs (row.take k)) (row.getD k 0):=by
 have e:row.getD k 0=row[k]:=by simp[hk]
 rw[List.take_succ_eq_append_getElem hk,e];unfold fF;rw[List.foldl_append];rfl
theorem DM {fs:List Fld} {ms:List Mnd} {K:ByteArray} (hf:∀ m∈ms,bm K m=true→found fs m):∀ x∈bz fs ms K,∀ n∈x.needs,n.place<fs.length:=by
 intro x hx n hn;unfold bz at hx;obtain⟨m,hm,rfl⟩:=List.mem_map.1 hx;obtain⟨gB,hH⟩:=List.mem_filter.1 hm;obtain⟨_,f2,f3⟩:=hf m gB hH;have zl:n∈dX fs m:=hn;unfold dX at zl;rcases List.mem_append.1 zl with h|h
 ·cases hw:Pl.aE m.whn
  ·rw[hw]at h;simp at h;rw[h];exact f2 hw
  ·rw[hw]at h;simp at h
 ·cases hw:Pl.aE m.frm
  ·rw[hw]at h;simp at h;rw[h];exact f3 hw
  ·rw[hw]at h;simp at h
theorem n7 {ss:List Shp} {ms:List Mnd} (h:aN ss=true) (hm:eM ss ms ms.length=true) {i:Nat} (hi:i<ss.length):∀ m∈ms,bm (ss.getD i Shp.none).kind m=true→aR (ss.getD i Shp.none).fields m=true:=by
 intro m g9 hk;unfold eM at hm;rw[mI,List.all_eq_true]at hm;have h1:=hm m g9;unfold dA at h1;have Mv:=mW h hi hk;rw[Mv]at h1;exact((Bool.and_eq_true _ _).mp h1).2
theorem FC {fs:List Fld} {ms:List Mnd} {K:ByteArray} (hf:∀ m∈ms,bm K m=true→found fs m) (ho:∀ m∈ms,bm K m=true→aR fs m=true):∀ x∈bz fs ms K,x.put.toList.isEmpty=true→x.frm<fs.length:=by
 intro x hx hp;unfold bz at hx;obtain⟨m,hm,rfl⟩:=List.mem_map.1 hx;obtain⟨gB,hH⟩:=List.mem_filter.1 hm;obtain⟨_,_,f3⟩:=hf m gB hH;have h2:=ho m gB hH;unfold aR at h2;simp only[Bool.and_eq_true]at h2;obtain⟨⟨⟨⟨_,p2⟩,_⟩,_⟩,_⟩:=h2;have Ml:Pl.aE m.put=true:=hp;have K8:Pl.aE m.frm=false:=by
  unfold mq at p2;rw[Ml]at p2;cases hh:Pl.aE m.frm
  ·rfl
  ·rw[hh]at p2;simp at p2
 show (if Pl.aE m.frm=true then 0 else nameAt fs m.frm)<fs.length;rw[K8];exact f3 K8
theorem CT.Cz {w:World} {lo hi:Nat} {g cap:Nat} {ss:List ByteArray} (h:CT w lo hi (.slice (some ⟨g,0,none⟩) ss.length cap) ss) (p:Nat) (hp:p<ss.length) (z:ByteArray):CT (w.setCell ⟨g,p,none⟩ (.string z)) lo hi (.slice (some ⟨g,0,none⟩) ss.length cap) (ss.set p z):=by
 rcases h with⟨e,e2⟩|⟨g',yX,e,h1,h2,h3,h4,h5⟩
 ·rw[e2]at hp;exact absurd hp (Nat.not_lt_zero p)
 ·injection e with e1 e3 e4
  injection e1 with e1
  injection e1 with e1
  subst e1 e4;refine Or.inr ⟨g,cap,by rw[List.length_set],h1,h2,h3.setCell p _,by rw[List.length_set];exact h4,fun i hi=> ?_⟩;rw[List.length_set]at hi;by_cases hip:i=p
  ·subst hip;rw[eL h3 i (by omega) _];simp[hi]
  ·rw[aF _ _ _ _ _ _ (Or.inr hip),h5 i hi];simp[hi,Ne.symm hip]
theorem gg.Cz {w wr:World} {X mid:Nat} {o:Ob} {vs:List ByteArray} {g cap:Nat} {v2:Value} (h:gg w wr X mid o vs (.slice (some ⟨g,0,none⟩) vs.length cap) v2) (p:Nat) (hp:p<vs.length) (z:ByteArray):
  gg w (wr.setCell ⟨g,p,none⟩ (.string z)) X mid o (vs.set p z) (.slice (some ⟨g,0,none⟩) vs.length cap) v2:=by
 obtain⟨g1,g2,_,_,_,_⟩:=h.c1.row;have m1:=h.m1;have m2:=h.m2;have c:∀ j,(wr.setCell ⟨g,p,none⟩ (.string z)).cell? ⟨X,j,none⟩=wr.cell? ⟨X,j,none⟩:=fun j=>aF _ _ _ _ _ _ (Or.inl (by omega));exact⟨h.bel.setCell (p:=⟨g,p,none⟩) (by show w.heap.size≤g;omega) _,h.own.bk (by omega) _ _,by rw[fm];exact h.lt,(c 0).trans h.x0,(c 1).trans h.x1,(c 2).trans h.x2,(c 3).trans h.x3,(c 4).trans h.x4,(c 5).trans h.x5,(c 6).trans h.x6,h.c1.Cz p hp z,h.c2.sc (Or.inl (by omega)) _ _,m1,m2⟩
end Go.Proofs.YtbiokpmdghmgcaaGreat
namespace Go.Proofs.YtbiokpmdghmgcaaGreat
set_option maxRecDepth 8000
set_option maxHeartbeats 40000000
open Go.RowKit Go.Deep
theorem uz {w:World} {g b:Nat} {z:ByteArray} {k:Int} (h:w.cell? ⟨g,0,none⟩=some (.string z)) (h':w.cell? ⟨b,0,none⟩=some (.int .i64 k)):b≠g:=by
 intro e;subst e;rw[h]at h';cases h'
theorem dn.sc {w:World} {v:Value} {l:List Nat} (h:dn w v l) {g:Nat} {z:ByteArray} (hz:w.cell? ⟨g,0,none⟩=some (.string z)) (p:Nat) (x:Value):dn (w.setCell ⟨g,p,none⟩ x) v l:=by
 rcases h with h|⟨b,c,rfl,h1,h2,h3⟩
 ·exact Or.inl h
 ·refine Or.inr ⟨b,c,rfl,by rw[bg];exact h1,h2,fun i hi=> ?_⟩;have fe:=uz hz (h3 0 (by omega));rw[aF _ _ _ _ _ _ (Or.inl fe)];exact h3 i hi
theorem iU.sc {w:World} {v:Value} {ns:List lv} (h:iU w v ns) {g:Nat} {z:ByteArray} (hz:w.cell? ⟨g,0,none⟩=some (.string z)) (p:Nat) (x:Value):iU (w.setCell ⟨g,p,none⟩ x) v ns:=by
 rcases h with h|⟨b,c,rfl,h1,h2⟩
 ·exact Or.inl h
 ·refine Or.inr ⟨b,c,rfl,by rw[bg];exact h1,fun i hi=> ?_⟩;have fe:=uz hz (h2 0 (by omega)).1;exact⟨(aF _ _ _ _ _ _ (Or.inl fe)).trans (h2 i hi).1,(aF _ _ _ _ _ _ (Or.inl fe)).trans (h2 i hi).2.1,(aF _ _ _ _ _ _ (Or.inl fe)).trans (h2 i hi).2.2⟩
theorem fh.sc {w:World} {v:Value} {L:List Mng} (h:fh w v L) {g:Nat} {z:ByteArray} (hz:w.cell? ⟨g,0,none⟩=some (.string z)) (p:Nat) (x:Value):fh (w.setCell ⟨g,p,none⟩ x) v L:=by
 rcases h with h|⟨b,c,rfl,h1,h2⟩
 ·exact Or.inl h
 ·refine Or.inr ⟨b,c,rfl,by rw[bg];exact h1,fun i hi=> ?_⟩;obtain⟨a0,e0,h0⟩:=h2 0 (by omega);have fe:b≠g:=uz hz (by simpa using h0.c0);obtain⟨a,d,hm⟩:=h2 i hi;exact⟨a,d,(aF _ _ _ _ _ _ (Or.inl fe)).trans hm.c0,(aF _ _ _ _ _ _ (Or.inl fe)).trans hm.c1,(aF _ _ _ _ _ _ (Or.inl fe)).trans hm.c2,(aF _ _ _ _ _ _ (Or.inl fe)).trans hm.c3,hm.needs.sc hz p x⟩
theorem fh.len {w:World} {a:Option Addr} {n c:Nat} {L:List Mng} (h:fh w (.slice a n c) L):n=L.length:=by
 rcases h with⟨rfl,a',c',e⟩|⟨g,c',e,_⟩
 ·injection e
 ·injection e
theorem dn.LA {w:World} {a:Option Addr} {n c:Nat} {l:List Nat} (h:dn w (.slice a n c) l):n=l.length:=by
 rcases h with⟨rfl,a',c',e⟩|⟨g,c',e,_⟩
 ·injection e
 ·injection e
theorem rM (B mb:Nat) (ss:List Shp) (ms:List Mnd) (o:Ob) (b1:Option Addr) (c1:Nat) (b2:Option Addr) (c2:Nat) (w:World) (h:bh w B ss) (hm:dv w mb ms) (fN:aU ss ms=true) (ho:ObG w b1 c1 b2 c2 o):
  Calls Tryz.prog 185 #[.slice (some ⟨B,0,none⟩) ss.length ss.length,.slice (some ⟨mb,0,none⟩) ms.length ms.length,.agg #[.string o.kind,.string o.name,.string o.team,.slice b1 o.values.length c1,.bool o.ending,.slice b2 o.holds.length c2,.int .i64 o.version]] w fun e w'=>(∃ a1 n1 d1 a2 n2 d2 mid,e=.returned (.agg #[.string o.kind,.string o.name,.string o.team,.slice a1 n1 d1,.bool o.ending,.slice a2 n2 d2,.int .i64 o.version])∧CT w' w.heap.size mid (.slice a1 n1 d1) (bI ss ms o.kind o.values)∧CT w' mid w'.heap.size (.slice a2 n2 d2) o.holds∧w.heap.size≤mid∧mid≤w'.heap.size)∧Bel w w':=by
 have HA:=hid (And.intro h (And.intro hm ho));have vO:=hid fN;have hl:=h.len;have Hr:=hm.len;have tw:=ho.len1;clear h hm ho fN;obtain⟨w0,gx⟩:∃ w0,w0=(w.alloc (.cells #[.string o.kind,.string o.name,.string o.team,.slice b1 o.values.length c1,.bool o.ending,.slice b2 o.holds.length c2,.int .i64 o.version] 111)).alloc (.cells #[.string ⟨#[]⟩,.string ⟨#[]⟩,.string ⟨#[]⟩,.slice none 0 0,.bool false,.slice none 0 0,.int .i64 0] 111):=⟨_,rfl⟩
 have gd:Hid (Bel w w0):=by show Below _ _ _;rw[gx];exact ab (ab br _) _
 have rI:Hid (ai w0 (w.heap.size+1) 111 7):=by show ai _ _ _ _;rw[gx];exact ai.gU _ _ _ _ _ rfl (by simp)
 have qF:Hid (w0.heap.size=w.heap.size+2):=by show _=_;rw[gx];simp
 have vy:Hid (∀ W,Bel w0 W→w.heap.size<W.heap.size∧∀ j,W.cell? ⟨w.heap.size,j,none⟩=(#[.string o.kind,.string o.name,.string o.team,.slice b1 o.values.length c1,.bool o.ending,.slice b2 o.holds.length c2,.int .i64 o.version]:Array Value)[j]?):=by
  intro W hW;have q:w.heap.size<w0.heap.size:=by have:=qF.out;omega
  refine⟨lo q hW.size,fun j=>(hW.cell (p:=⟨w.heap.size,j,none⟩) q).trans ?_⟩;rw[gx];exact(World.cell?_alloc_past _ _ _ (by simp)).trans (World.cell?_alloc_at _ _ _ _ rfl)
 obtain⟨xz,xs⟩:=vy.out w0 br;have x0:w0.cell? ⟨w.heap.size,0,none⟩=some (.string o.kind):=xs 0;have x1:w0.cell? ⟨w.heap.size,1,none⟩=some (.string o.name):=xs 1;have x2:w0.cell? ⟨w.heap.size,2,none⟩=some (.string o.team):=xs 2;have x3:w0.cell? ⟨w.heap.size,3,none⟩=some (.slice b1 o.values.length c1):=xs 3;have x4:w0.cell? ⟨w.heap.size,4,none⟩=some (.bool o.ending):=xs 4;have x5:w0.cell? ⟨w.heap.size,5,none⟩=some (.slice b2 o.holds.length c2):=xs 5;have x6:w0.cell? ⟨w.heap.size,6,none⟩=some (.int .i64 o.version):=xs 6;clear xs;go_enter Tryz.func185,Tryz.ntmps185
 go_upto_region 1 with fail
 rw[← gx];clear gx;go_wp2_with fail
 refine(wM o b1 c1 b2 c2 w0 (HA.out.2.2.later gd.out)).mono ?_;rintro e w1 ⟨⟨a1,n1,d1,a2,n2,d2,mid,rfl,eJ,fx,gB,hH⟩,bl⟩;rw[qF.out]at eJ gB;have th:w.heap.size+2≤w1.heap.size:=by have:=bl.size;rw[qF.out]at this;exact this
 have cQ:=hid (aa gd.out bl);obtain⟨w2,gQ⟩:∃ w2,w2=w1.alloc (.cells #[.string o.kind,.string o.name,.string o.team,.slice a1 n1 d1,.bool o.ending,.slice a2 n2 d2,.int .i64 o.version] 111):=⟨_,rfl⟩
 obtain⟨X,hX⟩:∃ X,X=w1.heap.size:=⟨_,rfl⟩
 have aA:Bel w1 w2:=by rw[gQ];exact ab br _
 have vN:Hid (gg w w2 X mid o o.values (.slice a1 n1 d1) (.slice a2 n2 d2)):=by
  show gg _ _ _ _ _ _ _ _;rw[hX];have q:∀ j,w2.cell? ⟨w1.heap.size,j,none⟩=(#[.string o.kind,.string o.name,.string o.team,.slice a1 n1 d1,.bool o.ending,.slice a2 n2 d2,.int .i64 o.version]:Array Value)[j]? :=fun j=>by rw[gQ];exact World.cell?_alloc_at _ _ _ _ rfl
  exact⟨aa cQ.out aA,(rI.out.later bl).later aA,by rw[gQ];simp,q 0,q 1,q 2,q 3,q 4,q 5,q 6,eJ.later aA,fx.later aA,gB,hH⟩
 have iI:=hid (aa bl aA);go_upto_region 2 with fail
 rw[← gQ,← hX];clear gQ hX bl aA eJ fx gB hH th x0 x1 x2 x3 x4 x5 x6 xz;obtain⟨xz,xs⟩:=vy.out w2 iI.out;have x0:w2.cell? ⟨w.heap.size,0,none⟩=some (.string o.kind):=xs 0;clear xs;go_wp2_with fail
 refine(jL w B ss o.kind w2 HA.out.1 vN.out.bel).mono ?_;rintro e w3 ⟨kd,a,n,c,rfl,kS,aO⟩;obtain⟨R,hR⟩:∃ R,R=aK ss o.kind:=⟨_,rfl⟩
 rw[← hR];have nA:=hid kS;have fg:=hid hR;clear hR kS x0 xz;obtain⟨w4,eo⟩:∃ w4,w4=w3.alloc (.cells #[.string kd,.slice a n c] 134):=⟨_,rfl⟩
 obtain⟨S,hS⟩:∃ S,S=w3.heap.size:=⟨_,rfl⟩
 have cA:Bel w3 w4:=by rw[eo];exact ab br _
 have nC:=hid ((vN.out.later aO).later cA);have BM:=hid (aa (aa iI.out aO) cA);have KU:Hid (S<w4.heap.size∧w4.cell? ⟨S,0,none⟩=some (.string kd)∧w4.cell? ⟨S,1,none⟩=some (.slice a n c)):=by
  refine⟨?_, ?_, ?_⟩<;>rw[eo,hS]<;>simp
 go_upto_region 3 with fail
 rw[← eo,← hS];clear eo hS aO cA vN iI;obtain⟨xz,xs⟩:=vy.out w4 BM.out;have x3:w4.cell? ⟨w.heap.size,3,none⟩=some (.slice b1 o.values.length c1):=xs 3;clear xs;obtain⟨sz,g0,g1⟩:=KU.out;obtain⟨_,_,z1,X0,X1,X2,X3,X4,X5,X6,_,_,_,_⟩:=nC.out;cases R
 ·have HF:Hid (bI ss ms o.kind o.values=o.values):=by show _=_;unfold bI;rw[if_neg];rw[← fg.out];simp
  have hR:=nC.out.own;have ij:=hR.frozen;have z2:=hR.lt;obtain⟨y0,kE⟩:=hR.cell 0 (by omega);obtain⟨y1,kF⟩:=hR.cell 1 (by omega);obtain⟨y2,kx⟩:=hR.cell 2 (by omega);obtain⟨y3,kG⟩:=hR.cell 3 (by omega);obtain⟨y4,ti⟩:=hR.cell 4 (by omega);obtain⟨y5,tq⟩:=hR.cell 5 (by omega);obtain⟨y6,tk⟩:=hR.cell 6 (by omega);clear hR;go_wp2;obtain⟨r,_,t1,t2,t3,t4,t5⟩:=nC.out.out [.string o.kind,.string o.name,.string o.team,.slice a1 n1 d1,.bool o.ending,.slice a2 n2 d2,.int .i64 o.version] rfl;have r0:(((((((w4.setCell ⟨w.heap.size+1,0,none⟩ (.string o.kind)).setCell ⟨w.heap.size+1,1,none⟩ (.string o.name)).setCell ⟨w.heap.size+1,2,none⟩ (.string o.team)).setCell ⟨w.heap.size+1,3,none⟩ (.slice a1 n1 d1)).setCell ⟨w.heap.size+1,4,none⟩ (.bool o.ending)).setCell ⟨w.heap.size+1,5,none⟩ (.slice a2 n2 d2)).setCell ⟨w.heap.size+1,6,none⟩ (.int .i64 o.version)).cell? ⟨w.heap.size+1,0,none⟩=some (.string o.kind):=r 0 (by omega);have r1:(((((((w4.setCell ⟨w.heap.size+1,0,none⟩ (.string o.kind)).setCell ⟨w.heap.size+1,1,none⟩ (.string o.name)).setCell ⟨w.heap.size+1,2,none⟩ (.string o.team)).setCell ⟨w.heap.size+1,3,none⟩ (.slice a1 n1 d1)).setCell ⟨w.heap.size+1,4,none⟩ (.bool o.ending)).setCell ⟨w.heap.size+1,5,none⟩ (.slice a2 n2 d2)).setCell ⟨w.heap.size+1,6,none⟩ (.int .i64 o.version)).cell? ⟨w.heap.size+1,1,none⟩=some (.string o.name):=r 1 (by omega);have r2:(((((((w4.setCell ⟨w.heap.size+1,0,none⟩ (.string o.kind)).setCell ⟨w.heap.size+1,1,none⟩ (.string o.name)).setCell ⟨w.heap.size+1,2,none⟩ (.string o.team)).setCell ⟨w.heap.size+1,3,none⟩ (.slice a1 n1 d1)).setCell ⟨w.heap.size+1,4,none⟩ (.bool o.ending)).setCell ⟨w.heap.size+1,5,none⟩ (.slice a2 n2 d2)).setCell ⟨w.heap.size+1,6,none⟩ (.int .i64 o.version)).cell? ⟨w.heap.size+1,2,none⟩=some (.string o.team):=r 2 (by omega);have r3:(((((((w4.setCell ⟨w.heap.size+1,0,none⟩ (.string o.kind)).setCell ⟨w.heap.size+1,1,none⟩ (.string o.name)).setCell ⟨w.heap.size+1,2,none⟩ (.string o.team)).setCell ⟨w.heap.size+1,3,none⟩ (.slice a1 n1 d1)).setCell ⟨w.heap.size+1,4,none⟩ (.bool o.ending)).setCell ⟨w.heap.size+1,5,none⟩ (.slice a2 n2 d2)).setCell ⟨w.heap.size+1,6,none⟩ (.int .i64 o.version)).cell? ⟨w.heap.size+1,3,none⟩=some (.slice a1 n1 d1):=r 3 (by omega);have r4:(((((((w4.setCell ⟨w.heap.size+1,0,none⟩ (.string o.kind)).setCell ⟨w.heap.size+1,1,none⟩ (.string o.name)).setCell ⟨w.heap.size+1,2,none⟩ (.string o.team)).setCell ⟨w.heap.size+1,3,none⟩ (.slice a1 n1 d1)).setCell ⟨w.heap.size+1,4,none⟩ (.bool o.ending)).setCell ⟨w.heap.size+1,5,none⟩ (.slice a2 n2 d2)).setCell ⟨w.heap.size+1,6,none⟩ (.int .i64 o.version)).cell? ⟨w.heap.size+1,4,none⟩=some (.bool o.ending):=r 4 (by omega);have r5:(((((((w4.setCell ⟨w.heap.size+1,0,none⟩ (.string o.kind)).setCell ⟨w.heap.size+1,1,none⟩ (.string o.name)).setCell ⟨w.heap.size+1,2,none⟩ (.string o.team)).setCell ⟨w.heap.size+1,3,none⟩ (.slice a1 n1 d1)).setCell ⟨w.heap.size+1,4,none⟩ (.bool o.ending)).setCell ⟨w.heap.size+1,5,none⟩ (.slice a2 n2 d2)).setCell ⟨w.heap.size+1,6,none⟩ (.int .i64 o.version)).cell? ⟨w.heap.size+1,5,none⟩=some (.slice a2 n2 d2):=r 5 (by omega);have r6:(((((((w4.setCell ⟨w.heap.size+1,0,none⟩ (.string o.kind)).setCell ⟨w.heap.size+1,1,none⟩ (.string o.name)).setCell ⟨w.heap.size+1,2,none⟩ (.string o.team)).setCell ⟨w.heap.size+1,3,none⟩ (.slice a1 n1 d1)).setCell ⟨w.heap.size+1,4,none⟩ (.bool o.ending)).setCell ⟨w.heap.size+1,5,none⟩ (.slice a2 n2 d2)).setCell ⟨w.heap.size+1,6,none⟩ (.int .i64 o.version)).cell? ⟨w.heap.size+1,6,none⟩=some (.int .i64 o.version):=r 6 (by omega);refine bodyPost_ret (v:=.agg #[.string o.kind,.string o.name,.string o.team,.slice a1 n1 d1,.bool o.ending,.slice a2 n2 d2,.int .i64 o.version]) (by simp only[results,Tryz.results185];simp[go_sem,r0,r1,r2,r3,r4,r5,r6]) rfl ⟨⟨_,_,_,_,_,_,mid,rfl, ?_,t2,t3,t4⟩,t5⟩;rw[HF.out];exact t1
 obtain⟨yT,b,hv,gW,hf⟩:=nA.out fg.out.symm;obtain⟨s,hs⟩:∃ s,s=ss.getD (aB ss o.kind) Shp.none:=⟨_,rfl⟩
 rw[← hs]at yT hv hf;injection hv with pE rJ pR
 subst pE rJ pR yT;have vJ:aB ss o.kind<ss.length:=by have:=fg.out.symm;simpa [aK]using this
 have lM:=vO.out;unfold aU at lM;simp only[Bool.and_eq_true]at lM;obtain⟨⟨⟨zn,yR⟩,BV⟩,Io⟩:=lM;have rG:Hid (bW w b s.fields):=by
  have dQ:=HA.out.1.small s (by rw[hs];simp[vJ]);exact⟨gW,dQ.1,dQ.2,hf⟩
 have BX:Hid (∀ m∈ms,bm s.kind m=true→found s.fields m):=by rw[hs];exact me zn BV vJ
 have MP:Hid (∀ m∈ms,bm s.kind m=true→aR s.fields m=true):=by rw[hs];exact n7 zn BV vJ
 have HRO:Hid (je (gZ (bz s.fields ms s.kind)) s.fields.length=true):=by
  unfold gY at Io;rw[List.all_eq_true]at Io;have:=Io (aB ss o.kind) (List.mem_range.2 vJ);rw[← hs]at this;exact this
 have jF:ms.length≤12:=of_decide_eq_true yR;have HS:=hid hs;have jg:=rG.out.len;clear gW hf hs vJ zn yR BV Io nA;by_cases heq:o.values.length=s.fields.length
 case neg=>
  have HF:Hid (bI ss ms o.kind o.values=o.values):=by show _=_;unfold bI;rw[if_neg];rw[← HS.out];exact fun hh=>heq hh.2
  have fe:(((o.values.length:Int)) !=(s.fields.length:Int))=true:=by simp;omega
  have hR:=nC.out.own;have ij:=hR.frozen;have z2:=hR.lt;obtain⟨y0,kE⟩:=hR.cell 0 (by omega);obtain⟨y1,kF⟩:=hR.cell 1 (by omega);obtain⟨y2,kx⟩:=hR.cell 2 (by omega);obtain⟨y3,kG⟩:=hR.cell 3 (by omega);obtain⟨y4,ti⟩:=hR.cell 4 (by omega);obtain⟨y5,tq⟩:=hR.cell 5 (by omega);obtain⟨y6,tk⟩:=hR.cell 6 (by omega);clear hR;go_wp2;obtain⟨r,_,t1,t2,t3,t4,t5⟩:=nC.out.out [.string o.kind,.string o.name,.string o.team,.slice a1 n1 d1,.bool o.ending,.slice a2 n2 d2,.int .i64 o.version] rfl;have r0:(((((((w4.setCell ⟨w.heap.size+1,0,none⟩ (.string o.kind)).setCell ⟨w.heap.size+1,1,none⟩ (.string o.name)).setCell ⟨w.heap.size+1,2,none⟩ (.string o.team)).setCell ⟨w.heap.size+1,3,none⟩ (.slice a1 n1 d1)).setCell ⟨w.heap.size+1,4,none⟩ (.bool o.ending)).setCell ⟨w.heap.size+1,5,none⟩ (.slice a2 n2 d2)).setCell ⟨w.heap.size+1,6,none⟩ (.int .i64 o.version)).cell? ⟨w.heap.size+1,0,none⟩=some (.string o.kind):=r 0 (by omega);have r1:(((((((w4.setCell ⟨w.heap.size+1,0,none⟩ (.string o.kind)).setCell ⟨w.heap.size+1,1,none⟩ (.string o.name)).setCell ⟨w.heap.size+1,2,none⟩ (.string o.team)).setCell ⟨w.heap.size+1,3,none⟩ (.slice a1 n1 d1)).setCell ⟨w.heap.size+1,4,none⟩ (.bool o.ending)).setCell ⟨w.heap.size+1,5,none⟩ (.slice a2 n2 d2)).setCell ⟨w.heap.size+1,6,none⟩ (.int .i64 o.version)).cell? ⟨w.heap.size+1,1,none⟩=some (.string o.name):=r 1 (by omega);have r2:(((((((w4.setCell ⟨w.heap.size+1,0,none⟩ (.string o.kind)).setCell ⟨w.heap.size+1,1,none⟩ (.string o.name)).setCell ⟨w.heap.size+1,2,none⟩ (.string o.team)).setCell ⟨w.heap.size+1,3,none⟩ (.slice a1 n1 d1)).setCell ⟨w.heap.size+1,4,none⟩ (.bool o.ending)).setCell ⟨w.heap.size+1,5,none⟩ (.slice a2 n2 d2)).setCell ⟨w.heap.size+1,6,none⟩ (.int .i64 o.version)).cell? ⟨w.heap.size+1,2,none⟩=some (.string o.team):=r 2 (by omega);have r3:(((((((w4.setCell ⟨w.heap.size+1,0,none⟩ (.string o.kind)).setCell ⟨w.heap.size+1,1,none⟩ (.string o.name)).setCell ⟨w.heap.size+1,2,none⟩ (.string o.team)).setCell ⟨w.heap.size+1,3,none⟩ (.slice a1 n1 d1)).setCell ⟨w.heap.size+1,4,none⟩ (.bool o.ending)).setCell ⟨w.heap.size+1,5,none⟩ (.slice a2 n2 d2)).setCell ⟨w.heap.size+1,6,none⟩ (.int .i64 o.version)).cell? ⟨w.heap.size+1,3,none⟩=some (.slice a1 n1 d1):=r 3 (by omega);have r4:(((((((w4.setCell ⟨w.heap.size+1,0,none⟩ (.string o.kind)).setCell ⟨w.heap.size+1,1,none⟩ (.string o.name)).setCell ⟨w.heap.size+1,2,none⟩ (.string o.team)).setCell ⟨w.heap.size+1,3,none⟩ (.slice a1 n1 d1)).setCell ⟨w.heap.size+1,4,none⟩ (.bool o.ending)).setCell ⟨w.heap.size+1,5,none⟩ (.slice a2 n2 d2)).setCell ⟨w.heap.size+1,6,none⟩ (.int .i64 o.version)).cell? ⟨w.heap.size+1,4,none⟩=some (.bool o.ending):=r 4 (by omega);have r5:(((((((w4.setCell ⟨w.heap.size+1,0,none⟩ (.string o.kind)).setCell ⟨w.heap.size+1,1,none⟩ (.string o.name)).setCell ⟨w.heap.size+1,2,none⟩ (.string o.team)).setCell ⟨w.heap.size+1,3,none⟩ (.slice a1 n1 d1)).setCell ⟨w.heap.size+1,4,none⟩ (.bool o.ending)).setCell ⟨w.heap.size+1,5,none⟩ (.slice a2 n2 d2)).setCell ⟨w.heap.size+1,6,none⟩ (.int .i64 o.version)).cell? ⟨w.heap.size+1,5,none⟩=some (.slice a2 n2 d2):=r 5 (by omega);have r6:(((((((w4.setCell ⟨w.heap.size+1,0,none⟩ (.string o.kind)).setCell ⟨w.heap.size+1,1,none⟩ (.string o.name)).setCell ⟨w.heap.size+1,2,none⟩ (.string o.team)).setCell ⟨w.heap.size+1,3,none⟩ (.slice a1 n1 d1)).setCell ⟨w.heap.size+1,4,none⟩ (.bool o.ending)).setCell ⟨w.heap.size+1,5,none⟩ (.slice a2 n2 d2)).setCell ⟨w.heap.size+1,6,none⟩ (.int .i64 o.version)).cell? ⟨w.heap.size+1,6,none⟩=some (.int .i64 o.version):=r 6 (by omega);refine bodyPost_ret (v:=.agg #[.string o.kind,.string o.name,.string o.team,.slice a1 n1 d1,.bool o.ending,.slice a2 n2 d2,.int .i64 o.version]) (by simp only[results,Tryz.results185];simp[go_sem,r0,r1,r2,r3,r4,r5,r6]) rfl ⟨⟨_,_,_,_,_,_,mid,rfl, ?_,t2,t3,t4⟩,t5⟩;rw[HF.out];exact t1
 have fe:(((o.values.length:Int)) !=(s.fields.length:Int))=false:=by simp;omega
 obtain⟨L,Ez⟩:∃ L,L=bz s.fields ms s.kind:=⟨_,rfl⟩
 obtain⟨row,j7⟩:∃ row,row=cx (gZ L) s.fields.length s.fields.length:=⟨_,rfl⟩
 have HF:Hid (bI ss ms o.kind o.values=fF L o.values row):=by
  show bI _ _ _ _=_;unfold bI mF rowAt mF;rw[← HS.out,if_pos ⟨fg.out.symm,heq⟩,j7,Ez]
 have ze:=hid Ez;have Ik:=hid j7;have zb:=hid heq;have Ef:Hid (L.length≤12∧∀ x∈L,x.needs.length≤2):=by rw[Ez];exact⟨Nat.le_trans (rV _ _ _) jF,pW _ _ _⟩
 clear Ez j7 heq;go_wp2_with fail
 refine(oh s b mb ms w4 (rG.out.later nC.out.bel) (HA.out.2.1.later nC.out.bel) BX.out).mono ?_;rintro e w5 ⟨⟨am,nm,cm,rfl,MU⟩,gI⟩;rw[← ze.out]at MU;have MT:=MU.at_;obtain rfl:nm=L.length:=MT.len;have iK:=hid MT;have HI5:=hid (nC.out.later gI);have g0':=(gI.cell (p:=⟨S,0,none⟩) sz).trans g0;have g1':=(gI.cell (p:=⟨S,1,none⟩) sz).trans g1;have sz':=lo sz gI.size;clear MT MU gI sz g0 g1 x3 xz z1 X0 X1 X2 X3 X4 X5 X6 nC BM KU;go_wp2_with fail
 refine(so s.kind s.fields.length _ _ am L.length cm L w5 jg iK.out Ef.out.1 Ef.out.2).mono ?_;rintro e w6 ⟨⟨ar,kr,dr,rfl,Ij⟩,yW⟩;have H6:je (gZ L) s.fields.length=true:=by rw[ze.out];exact HRO.out
 have Ij:=Ij H6;rw[← Ik.out]at Ij;obtain rfl:kr=row.length:=Ij.LA;have Nf:=hid (And.intro (HI5.out.later yW) (And.intro (iK.out.later yW) Ij));have Kg:Hid (row.length≤1048576∧∀ i,i<row.length→row.getD i 0<o.values.length):=by
  refine⟨?_,fun i hi=> ?_⟩
  ·have:=jM (gZ L) s.fields.length s.fields.length;rw[← Ik.out]at this;omega
  ·rw[zb.out];have e:row.getD i 0=row[i]:=by simp[hi]
   have:=kH (gZ L) s.fields.length s.fields.length row[i] (by rw[← Ik.out];exact List.getElem_mem hi);rw[e];exact this
 have F6:=Kg.out.1;clear yW Ij H6 g0' g1' sz' HI5 iK HRO;go_wp2;go_loopw [14,15,16,49] (fun s14 s15 s16 cJ wr=>∃ q:Nat,q≤row.length∧cJ=.int .i64 q∧gg w wr X mid o (fF L o.values (row.take q)) (.slice a1 n1 d1) (.slice a2 n2 d2)∧fh wr (.slice am L.length cm) L∧dn wr (.slice ar row.length dr) row) (fun _ _ _ cJ _=>row.length - (intOf cJ).toNat)
 case atStart=>exact⟨0,nz,rfl,Nf.out⟩
 case round=>
  obtain⟨q,hq,rfl,hI,hMg,hIn⟩:=hrel;obtain⟨vs,nj⟩:∃ vs,vs=fF L o.values (row.take q):=⟨_,rfl⟩
  have GK:=hid nj;rw[← nj]at hI;clear nj;have HI:=hid hI;have I3:=hid (And.intro hMg hIn);have vK:vs.length=o.values.length:=by rw[GK.out];exact jW _ _ _
  have EW:=hid vK;obtain⟨_,_,z1,X0,X1,X2,X3,X4,X5,X6,Gl,_,_,_⟩:=hI;clear hMg;by_cases av:q<row.length
  ·obtain⟨p,hp⟩:∃ p,p=row.getD q 0:=⟨_,rfl⟩
   have eI:p<vs.length:=by rw[vK,hp];exact Kg.out.2 q av
   have hF:Hid (fF L o.values (row.take (q+1))=dV L vs p):=by show _=_;rw[mS L o.values row q av,← GK.out,hp]
   rcases hIn with⟨e0,_⟩|⟨gr,cr,e0,KX,_,GO⟩
   ·rw[e0]at av;exact absurd av (Nat.not_lt_zero q)
   injection e0 with e1 _ e3
   subst e1 e3;have i0:=GO q av;rw[← hp]at i0;rcases Gl with⟨_,e2⟩|⟨g,cap,e1,M4,xb,G0,I7,Ib⟩
   ·rw[e2]at eI;exact absurd eI (Nat.not_lt_zero p)
   injection e1 with e1 e3 e4
   subst e1 e3 e4;have KN:Hid (VAt wr g vs):=⟨G0.lt,by omega,Ib⟩
   have HG:=hid (And.intro G0 (And.intro I7 (Ib 0 (by omega))));have HDC:Hid (Calls Tryz.prog 207 #[.slice am L.length cm,.int .i64 (p:Nat),.slice (some ⟨g,0,none⟩) vs.length d1] wr fun e w'=>(∃ (f:Nat) (a:Option Addr) (k c:Nat) (pt:ByteArray) (fr:Nat),e=.returned (.tuple #[.agg #[.int .i64 (f:Nat),.slice a k c,.string pt,.int .i64 (fr:Nat)],.bool (decide (du L p vs<L.length))])∧(du L p vs<L.length→pt=(L.getD (du L p vs) Mng.none).put∧fr=(L.getD (du L p vs) Mng.none).frm))∧Bel wr w'):=
    yc am cm p g d1 L vs wr I3.out.1 Ef.out.1 Ef.out.2 (by rw[EW.out,zb.out,ze.out];exact DM BX.out) KN.out
   have Jr:Hid (du L p vs<L.length→(L.getD (du L p vs) Mng.none).put.toList.isEmpty=true→(L.getD (du L p vs) Mng.none).frm<vs.length):=by
    intro hd he;have yO:L.getD (du L p vs) Mng.none∈L:=by simp[hd]
    rw[EW.out,zb.out];have:=FC BX.out MP.out;rw[← ze.out]at this;exact this _ yO he
   clear GO hp M4 xb G0 I7 Ib vK;go_wp2_with fail
   refine HDC.out.mono ?_;rintro e w7 ⟨⟨f,a',k',c',pt,fr,rfl,Kl⟩,Cl⟩;obtain⟨db,LW⟩:∃ db,db=decide (du L p vs<L.length):=⟨_,rfl⟩
   rw[← LW];have HDB:=hid LW;have HDE:=hid Kl;clear LW Kl HDC;obtain⟨w8,Lh⟩:∃ w8,w8=w7.alloc (.cells #[.int .i64 (f:Nat),.slice a' k' c',.string pt,.int .i64 (fr:Nat)] 238):=⟨_,rfl⟩
   obtain⟨M,hM⟩:∃ M,M=w7.heap.size:=⟨_,rfl⟩
   have hb8:Bel w7 w8:=by rw[Lh];exact ab br _
   have Bz:=hid (aa Cl hb8);have HM8:Hid (M<w8.heap.size∧w8.cell? ⟨M,0,none⟩=some (.int .i64 (f:Nat))∧w8.cell? ⟨M,1,none⟩=some (.slice a' k' c')∧w8.cell? ⟨M,2,none⟩=some (.string pt)∧w8.cell? ⟨M,3,none⟩=some (.int .i64 (fr:Nat))):=by
    refine⟨?_, ?_, ?_, ?_, ?_⟩<;>rw[Lh,hM]
    ·simp
    all_goals exact World.cell?_alloc_at _ _ _ _ rfl
   go_upto_region 11 with fail
   rw[← Lh,← hM];clear Lh hM Cl hb8 z1 X0 X1 X2 X3 X4 X5 X6 i0 KX;cases db
   ·have HN:Hid (dV L vs p=vs):=by show _=_;unfold dV;rw[if_neg];exact of_decide_eq_false HDB.out.symm
    go_wp2;go_roundw
    case rel=>exact⟨q+1,by omega,by go_num,by rw[hF.out,HN.out];exact HI.out.later Bz.out,I3.out.1.later Bz.out,I3.out.2.later Bz.out⟩
    case measure=>simp[intOf];omega
   ·have hd:=of_decide_eq_true HDB.out.symm;obtain⟨ept,efr⟩:=HDE.out hd;have HN:Hid (dV L vs p=vs.set p (if pt.toList.isEmpty then vs.getD fr ByteArray.empty else pt)):=by show _=_;unfold dV jo;rw[if_pos hd,ept,efr]
    have B9:Hid (∀ W,Bel w8 W→Calls Tryz.prog 208 #[.agg #[.int .i64 (f:Nat),.slice a' k' c',.string pt,.int .i64 (fr:Nat)],.slice (some ⟨g,0,none⟩) vs.length d1] W fun e w'=>e=.returned (.string (if pt.toList.isEmpty then vs.getD fr ByteArray.empty else pt))∧Bel W w'):=fun W hW=>Fq f a' k' c' pt fr g d1 vs W ((KN.out.later Bz.out).later hW) (fun he=>by rw[efr];exact Jr.out hd (by rw[← ept];exact he));obtain⟨zz,lP⟩:∃ zz,zz=(if pt.toList.isEmpty then vs.getD fr ByteArray.empty else pt):=⟨_,rfl⟩
    rw[← lP]at HN B9;clear lP hd ept efr;have iO:Hid (∀ W,Bel w8 W→X<W.heap.size∧W.cell? ⟨X,3,none⟩=some (.slice (some ⟨g,0,none⟩) vs.length d1)∧W.frozen? ⟨g,p,none⟩=false∧g<W.heap.size∧∃ u,W.cell? ⟨g,p,none⟩=some u):=by
     intro W hW;have q1:=(HI.out.later Bz.out).later hW;have q2:=(HG.out.1.later Bz.out).later hW;have q3:=HG.out.2.1;exact⟨q1.lt,q1.x3,q2.frozen p,q2.lt,q2.cell p (by omega)⟩
    have La:Hid (∀ W,Bel w8 W→gg w (W.setCell ⟨g,p,none⟩ (.string zz)) X mid o (fF L o.values (row.take (q+1))) (.slice (some ⟨g,0,none⟩) vs.length d1) (.slice a2 n2 d2)∧fh (W.setCell ⟨g,p,none⟩ (.string zz)) (.slice am L.length cm) L∧dn (W.setCell ⟨g,p,none⟩ (.string zz)) (.slice (some ⟨gr,0,none⟩) row.length dr) row):=by
     intro W hW;have hz:=(hW.cell (p:=⟨g,0,none⟩) (HG.out.1.later Bz.out).lt).trans ((Bz.out.cell (p:=⟨g,0,none⟩) HG.out.1.lt).trans HG.out.2.2);refine⟨?_,((I3.out.1.later Bz.out).later hW).sc hz _ _,((I3.out.2.later Bz.out).later hW).sc hz _ _⟩;rw[hF.out,HN.out];exact((HI.out.later Bz.out).later hW).Cz p eI zz
    obtain⟨mz,m0,m1,m2,m3⟩:=HM8.out;obtain⟨z1,X3,ij,za,u,hu⟩:=iO.out w8 br;go_wp2_with fail
    go_region_with (go_at_call 208;refine(B9.out _ ?_).mono ?_;(repeat(first|exact br|refine Below.drew ?_));rintro e w9 ⟨rfl,xf⟩;have k9:Bel w8 w9:=aa (by repeat(first|exact br|refine Below.drew ?_)) xf;clear xf;obtain⟨z9,X9,JG,MY,u9,hu9⟩:=iO.out w9 k9)
    all_goals
     go_wp2;go_roundw
     case rel=>
      first
       |exact⟨q+1,by omega,by go_num,La.out _ (by repeat(first|exact k9|refine Below.drew ?_))⟩
       |(have hh:=La.out _ k9;exact⟨q+1,by omega,by go_num,hh.1.later (by repeat(first|exact br|refine Below.drew ?_)),hh.2.1.later (by repeat(first|exact br|refine Below.drew ?_)),hh.2.2.later (by repeat(first|exact br|refine Below.drew ?_))⟩)
     case measure=>simp[intOf];omega
  ·obtain rfl:q=row.length:=by omega
   have GL:Hid (bI ss ms o.kind o.values=vs):=by show _=_;rw[HF.out,GK.out,List.take_length]
   clear hIn Gl vK;have hR:=HI.out.own;have ij:=hR.frozen;have z2:=hR.lt;obtain⟨y0,kE⟩:=hR.cell 0 (by omega);obtain⟨y1,kF⟩:=hR.cell 1 (by omega);obtain⟨y2,kx⟩:=hR.cell 2 (by omega);obtain⟨y3,kG⟩:=hR.cell 3 (by omega);obtain⟨y4,ti⟩:=hR.cell 4 (by omega);obtain⟨y5,tq⟩:=hR.cell 5 (by omega);obtain⟨y6,tk⟩:=hR.cell 6 (by omega);clear hR;go_wp2;obtain⟨r,_,t1,t2,t3,t4,t5⟩:=HI.out.out [.string o.kind,.string o.name,.string o.team,.slice a1 n1 d1,.bool o.ending,.slice a2 n2 d2,.int .i64 o.version] rfl;have r0:(((((((wr.setCell ⟨w.heap.size+1,0,none⟩ (.string o.kind)).setCell ⟨w.heap.size+1,1,none⟩ (.string o.name)).setCell ⟨w.heap.size+1,2,none⟩ (.string o.team)).setCell ⟨w.heap.size+1,3,none⟩ (.slice a1 n1 d1)).setCell ⟨w.heap.size+1,4,none⟩ (.bool o.ending)).setCell ⟨w.heap.size+1,5,none⟩ (.slice a2 n2 d2)).setCell ⟨w.heap.size+1,6,none⟩ (.int .i64 o.version)).cell? ⟨w.heap.size+1,0,none⟩=some (.string o.kind):=r 0 (by omega);have r1:(((((((wr.setCell ⟨w.heap.size+1,0,none⟩ (.string o.kind)).setCell ⟨w.heap.size+1,1,none⟩ (.string o.name)).setCell ⟨w.heap.size+1,2,none⟩ (.string o.team)).setCell ⟨w.heap.size+1,3,none⟩ (.slice a1 n1 d1)).setCell ⟨w.heap.size+1,4,none⟩ (.bool o.ending)).setCell ⟨w.heap.size+1,5,none⟩ (.slice a2 n2 d2)).setCell ⟨w.heap.size+1,6,none⟩ (.int .i64 o.version)).cell? ⟨w.heap.size+1,1,none⟩=some (.string o.name):=r 1 (by omega);have r2:(((((((wr.setCell ⟨w.heap.size+1,0,none⟩ (.string o.kind)).setCell ⟨w.heap.size+1,1,none⟩ (.string o.name)).setCell ⟨w.heap.size+1,2,none⟩ (.string o.team)).setCell ⟨w.heap.size+1,3,none⟩ (.slice a1 n1 d1)).setCell ⟨w.heap.size+1,4,none⟩ (.bool o.ending)).setCell ⟨w.heap.size+1,5,none⟩ (.slice a2 n2 d2)).setCell ⟨w.heap.size+1,6,none⟩ (.int .i64 o.version)).cell? ⟨w.heap.size+1,2,none⟩=some (.string o.team):=r 2 (by omega);have r3:(((((((wr.setCell ⟨w.heap.size+1,0,none⟩ (.string o.kind)).setCell ⟨w.heap.size+1,1,none⟩ (.string o.name)).setCell ⟨w.heap.size+1,2,none⟩ (.string o.team)).setCell ⟨w.heap.size+1,3,none⟩ (.slice a1 n1 d1)).setCell ⟨w.heap.size+1,4,none⟩ (.bool o.ending)).setCell ⟨w.heap.size+1,5,none⟩ (.slice a2 n2 d2)).setCell ⟨w.heap.size+1,6,none⟩ (.int .i64 o.version)).cell? ⟨w.heap.size+1,3,none⟩=some (.slice a1 n1 d1):=r 3 (by omega);have r4:(((((((wr.setCell ⟨w.heap.size+1,0,none⟩ (.string o.kind)).setCell ⟨w.heap.size+1,1,none⟩ (.string o.name)).setCell ⟨w.heap.size+1,2,none⟩ (.string o.team)).setCell ⟨w.heap.size+1,3,none⟩ (.slice a1 n1 d1)).setCell ⟨w.heap.size+1,4,none⟩ (.bool o.ending)).setCell ⟨w.heap.size+1,5,none⟩ (.slice a2 n2 d2)).setCell ⟨w.heap.size+1,6,none⟩ (.int .i64 o.version)).cell? ⟨w.heap.size+1,4,none⟩=some (.bool o.ending):=r 4 (by omega);have r5:(((((((wr.setCell ⟨w.heap.size+1,0,none⟩ (.string o.kind)).setCell ⟨w.heap.size+1,1,none⟩ (.string o.name)).setCell ⟨w.heap.size+1,2,none⟩ (.string o.team)).setCell ⟨w.heap.size+1,3,none⟩ (.slice a1 n1 d1)).setCell ⟨w.heap.size+1,4,none⟩ (.bool o.ending)).setCell ⟨w.heap.size+1,5,none⟩ (.slice a2 n2 d2)).setCell ⟨w.heap.size+1,6,none⟩ (.int .i64 o.version)).cell? ⟨w.heap.size+1,5,none⟩=some (.slice a2 n2 d2):=r 5 (by omega);have r6:(((((((wr.setCell ⟨w.heap.size+1,0,none⟩ (.string o.kind)).setCell ⟨w.heap.size+1,1,none⟩ (.string o.name)).setCell ⟨w.heap.size+1,2,none⟩ (.string o.team)).setCell ⟨w.heap.size+1,3,none⟩ (.slice a1 n1 d1)).setCell ⟨w.heap.size+1,4,none⟩ (.bool o.ending)).setCell ⟨w.heap.size+1,5,none⟩ (.slice a2 n2 d2)).setCell ⟨w.heap.size+1,6,none⟩ (.int .i64 o.version)).cell? ⟨w.heap.size+1,6,none⟩=some (.int .i64 o.version):=r 6 (by omega);refine bodyPost_ret (v:=.agg #[.string o.kind,.string o.name,.string o.team,.slice a1 n1 d1,.bool o.ending,.slice a2 n2 d2,.int .i64 o.version]) (by simp only[results,Tryz.results185];simp[go_sem,r0,r1,r2,r3,r4,r5,r6]) rfl ⟨⟨_,_,_,_,_,_,mid,rfl, ?_,t2,t3,t4⟩,t5⟩;rw[GL.out];exact t1
end Go.Proofs.YtbiokpmdghmgcaaGreat
