import Derived.Laws.AppendOwnNone
import Derived.Laws.IdiomStrings
import Derived.Laws.BytesString
import Derived.Deep.RegionWith
import Derived.Test.YtbiokpmdghmgcaaGreatPuts
namespace Go.Proofs.YtbiokpmdghmgcaaGreat
open Go.RowKit Go.Deep
end Go.Proofs.YtbiokpmdghmgcaaGreat
namespace Go.Proofs.YtbiokpmdghmgcaaGreat
set_option maxRecDepth 8000
set_option maxHeartbeats 40000000
open Go.RowKit Go.Deep
def CT (w:World) (lo hi:Nat) (v:Value) (ss:List ByteArray):Prop:=
 (v=.slice none 0 0∧ss=[])∨∃ g cap,v=.slice (some ⟨g,0,none⟩) ss.length cap∧lo≤g∧g<hi∧ai w g 9 cap∧ss.length≤cap∧∀ i,i<ss.length→w.cell? ⟨g,i,none⟩=some (.string (ss.getD i ByteArray.empty))
theorem CT.ri {w:World} {lo:Nat} {v:Value} {ss:List ByteArray} (h:w.ownsRow lo 9 1 v ss.length (ss.map Value.string)):CT w lo w.heap.size v ss:=by
 rcases h with⟨_,⟨rfl,hn⟩|⟨g,cap,cur,rfl,hg,hb,hn,_,bP,ht⟩⟩
 ·exact Or.inl ⟨rfl,List.length_eq_zero_iff.1 hn⟩
 ·have hO:ai w g 9 cap:=⟨cur,hb,by omega⟩
  refine Or.inr ⟨g,cap,rfl,hg,hO.lt,hO,hn,fun i hi=> ?_⟩;have hc:w.cell? ⟨g,i,none⟩=cur[i]? :=by simp[World.cell?,hb]
  rw[hc];have e:(cur.toList.take (ss.length*1))[i]? =(ss.map Value.string)[i]? :=by rw[ht]
  rw[List.getElem?_take,if_pos (by omega)]at e;rw[← Array.getElem?_toList,e];simp[hi]
theorem CT.later {w w':World} {lo hi:Nat} {v:Value} {ss:List ByteArray} (h:CT w lo hi v ss) (hb:Bel w w'):CT w' lo hi v ss:=by
 rcases h with h|⟨g,cap,rfl,h1,Il,h2,h3,h4⟩
 ·exact Or.inl h
 ·exact Or.inr ⟨g,cap,rfl,h1,Il,h2.later hb,h3,fun i hi=>(hb.cell (p:=⟨g,i,none⟩) h2.lt).trans (h4 i hi)⟩
theorem CT.sc {w:World} {lo hi:Nat} {v:Value} {ss:List ByteArray} (h:CT w lo hi v ss) {B:Nat} (hB:B<lo∨hi≤B) (o:Nat) (x:Value):CT (w.setCell ⟨B,o,none⟩ x) lo hi v ss:=by
 rcases h with h|⟨g,cap,rfl,h1,Il,h2,h3,h4⟩
 ·exact Or.inl h
 ·exact Or.inr ⟨g,cap,rfl,h1,Il,h2.bk (by omega) o x,h3,fun i hi=>(aF w B o x g i (Or.inl (by omega))).trans (h4 i hi)⟩
theorem CT.mono {w:World} {lo hi lo' BZ:Nat} {v:Value} {ss:List ByteArray} (h:CT w lo hi v ss) (h1:lo'≤lo) (h2:hi≤BZ):CT w lo' BZ v ss:=by
 rcases h with h|⟨g,cap,rfl,g1,g2,g3,g4,g5⟩
 ·exact Or.inl h
 ·exact Or.inr ⟨g,cap,rfl,by omega,by omega,g3,g4,g5⟩
theorem nQ {w w':World} (hg:w.grownBy w' none):Bel w w':=Below.grown br hg nr (fun k e=>by cases e)
theorem fQ {P:Program} (w:World) {ops:Array Oper} {rest:List Oper} {o:Oper} {a:Act} {Q:Exit→Act→World→Prop} (hgd:o.guard=none) (s x:Operand) (t:TypeId)
  (ho:o.op=.call {callee:=.builtin .append,args:=#[s,x],argTypes:=#[t,t]})
  (base:Nat) (e:TypeId) (i:TypeInfo) (z:Value) (size bytes:Nat) (ht:P.underlying t=some (.slice e)) (hi:P.info? e=some i) (hz:i.zero=some z)
  (hsize:i.size=size) (hby:i.bytes=bytes) (hzs:z.cells.size=size) (eU:0<size)
  (v:Value) (n:Nat) (xs:List Value) (hs:a.eval s=v) (cq:w.ownsRow base e size v n xs)
  (ad:Option Addr) (m c:Nat) (news:List Value) (hx:a.eval x=.slice ad m c) (hl:news.length=m*size)
  (Nw:(ad=none∧m=0∧c=0)∨∃ a0,ad=some a0∧∀ j u,news[j]? =some u→w.cell? (a0.add j)=some u) (h1:∀ u∈news,u.oneCell'=true)
  (h63:n+m≤maxLen) (hbytes:(n+m)*bytes≤140737488355328) (hbase:base≤w.heap.size)
  (h:∀ v' w',w'.ownsRow base e size v' (n+m) (xs++news)→w.grownBy w' v.ownBlock→(v'=.slice none 0 0↔v=.slice none 0 0∧m=0)→wpList P ops Q rest (a.put o.dst v') w'):wpList P ops Q (o::rest) a w:=by
 rcases Nw with⟨rfl,rfl,rfl⟩|⟨a0,rfl,JL⟩
 ·have hn:news=[]:=List.length_eq_zero_iff.1 (by simpa using hl);subst hn;exact wpList_append_own_none hgd s x t ho base e i size ht hi v n xs hs cq hx (h v w (by simpa using cq) (World.grownBy.refl _ _) (by simp))
 ·exact wpList_append_own w hgd s x t ho base e i z size bytes ht hi hz hsize hby hzs eU v n xs hs cq a0 m c news hx hl JL h1 h63 hbytes hbase h
def TxG (w:World) (a:Option Addr) (c:Nat) (ss:List ByteArray):Prop:=
 (a=none∧c=0∧ss=[])∨∃ b,a=some ⟨b,0,none⟩∧b<w.heap.size∧∀ i,i<ss.length→w.cell? ⟨b,i,none⟩=some (.string (ss.getD i ByteArray.empty))
theorem TxG.later {w w':World} {a:Option Addr} {c:Nat} {ss:List ByteArray} (h:TxG w a c ss) (hb:Bel w w'):TxG w' a c ss:=by
 rcases h with h|⟨b,rfl,h1,h2⟩
 ·exact Or.inl h
 ·exact Or.inr ⟨b,rfl,lo h1 hb.size,fun i hi=>(hb.cell (p:=⟨b,i,none⟩) h1).trans (h2 i hi)⟩
theorem CT.g {w:World} {lo hi n c:Nat} {a:Option Addr} {ss:List ByteArray} (h:CT w lo hi (.slice a n c) ss):n=ss.length∧TxG w a c ss:=by
 rcases h with⟨h,rfl⟩|⟨g,cap,h,_,_,h4,_,h6⟩
 ·injection h with h1 h2 h3
  exact⟨h2,Or.inl ⟨h1,h3,rfl⟩⟩
 ·injection h with h1 h2 h3
  exact⟨h2,Or.inr ⟨g,h1,h4.lt,h6⟩⟩
theorem yn {w:World} {b:Nat} {ss:List ByteArray} (hc:∀ i,i<ss.length→w.cell? ⟨b,i,none⟩=some (.string (ss.getD i ByteArray.empty))):
  ∀ j u,(ss.map Value.string)[j]? =some u→w.cell? (Addr.add ⟨b,0,none⟩ j)=some u:=by
 intro j u hj;rw[List.getElem?_map]at hj;cases hq:ss[j]? with
 |none=>rw[hq]at hj;cases hj
 |some s=>
  rw[hq]at hj;have pH:j<ss.length:=by
   by_cases pH:j<ss.length
   ·exact pH
   ·rw[List.getElem?_eq_none (by omega)]at hq;cases hq
  have:=hc j pH;have e:ss.getD j ByteArray.empty=s:=by simp[hq]
  rw[e]at this;injection hj with hj
  rw[← hj];by_cases h0:j=0
  ·subst h0;simpa [Addr.add]using this
  ·simpa [Addr.add,h0]using this
theorem TxG.src {w:World} {a:Option Addr} {c:Nat} {ss:List ByteArray} (h:TxG w a c ss):(a=none∧ss.length=0∧c=0)∨∃ a0,a=some a0∧∀ j u,(ss.map Value.string)[j]? =some u→w.cell? (a0.add j)=some u:=by
 rcases h with⟨rfl,rfl,rfl⟩|⟨b,rfl,_,h⟩
 ·exact Or.inl ⟨rfl,rfl,rfl⟩
 ·exact Or.inr ⟨_,rfl,yn h⟩
theorem oQ (b:Option Addr) (c:Nat) (ss:List ByteArray) (w:World) (hl:ss.length≤1048576) (hc:TxG w b c ss):
  Calls Tryz.prog 217 #[.slice b ss.length c] w fun e w'=>(∃ a n c,e=.returned (.slice a n c)∧CT w' w.heap.size w'.heap.size (.slice a n c) ss)∧Bel w w':=by
 obtain⟨i0,hi,mR,jr,gX⟩:=info_parts Tryz.si;go_enter Tryz.func217,Tryz.ntmps217
 go_wp2_with (at_builtin;refine fQ _ rfl _ _ 94 rfl w.heap.size 9 i0 (.string ByteArray.empty) 1 16 Tryz.underlying94 hi mR jr gX rfl (by decide) _ 0 [] rfl (World.ownsRow_nil _ _ _ _) b ss.length c (ss.map Value.string) rfl ?c1 ?c2 ?c3 ?c4 ?c5 ?c6 ?_)
 case c1=>simp
 case c2=>exact hc.src
 case c3=>intro u hu;simp at hu;obtain⟨s,_,rfl⟩:=hu;rfl
 case c4=>unfold maxLen;omega
 case c5=>omega
 case c6=>exact nr
 intro v' w1 cq ct MO;have Ca:CT w1 w.heap.size w1.heap.size v' ss:=CT.ri (by simpa using cq);have hB:Bel w w1:=nQ ct;obtain⟨a1,n1,c1,pE⟩:∃ a n c,v'=.slice a n c:=by
  rcases Ca with⟨h,_⟩|⟨g,cap,h,_⟩
  ·exact⟨_,_,_,h⟩
  ·exact⟨_,_,_,h⟩
 rw[pE]at Ca ⊢;have HC:=hid Ca;clear Ca cq ct MO pE;go_wp2;go_ret;exact⟨⟨_,_,_,rfl,HC.out⟩,hB⟩
end Go.Proofs.YtbiokpmdghmgcaaGreat
namespace Go.Proofs.YtbiokpmdghmgcaaGreat
set_option maxHeartbeats 40000000
open Go.RowKit Go.Deep
structure Ob where
 kind:ByteArray
 name:ByteArray
 team:ByteArray
 values:List ByteArray
 ending:Bool
 holds:List ByteArray
 version:Int
structure i7 (w:World) (b1 b2:Nat) (o:Ob):Prop where
 lt1:b1<w.heap.size
 lt2:b2<w.heap.size
 len1:o.values.length≤1048576
 len2:o.holds.length≤1048576
 at1:∀ i,i<o.values.length→w.cell? ⟨b1,i,none⟩=some (.string (o.values.getD i ByteArray.empty))
 at2:∀ i,i<o.holds.length→w.cell? ⟨b2,i,none⟩=some (.string (o.holds.getD i ByteArray.empty))
theorem i7.later {w w':World} {b1 b2:Nat} {o:Ob} (h:i7 w b1 b2 o) (hb:Bel w w'):i7 w' b1 b2 o:=
 ⟨lo h.lt1 hb.size,lo h.lt2 hb.size,h.len1,h.len2,fun i hi=>(hb.cell (p:=⟨b1,i,none⟩) h.lt1).trans (h.at1 i hi),fun i hi=>(hb.cell (p:=⟨b2,i,none⟩) h.lt2).trans (h.at2 i hi)⟩
structure ObG (w:World) (b1:Option Addr) (c1:Nat) (b2:Option Addr) (c2:Nat) (o:Ob):Prop where
 len1:o.values.length≤1048576
 len2:o.holds.length≤1048576
 at1:TxG w b1 c1 o.values
 at2:TxG w b2 c2 o.holds
theorem ObG.later {w w':World} {b1 b2:Option Addr} {c1 c2:Nat} {o:Ob} (h:ObG w b1 c1 b2 c2 o) (hb:Bel w w'):ObG w' b1 c1 b2 c2 o:=
 ⟨h.len1,h.len2,h.at1.later hb,h.at2.later hb⟩
theorem i7.g {w:World} {b1 b2:Nat} {o:Ob} (c1 c2:Nat) (h:i7 w b1 b2 o):ObG w (some ⟨b1,0,none⟩) c1 (some ⟨b2,0,none⟩) c2 o:=
 ⟨h.len1,h.len2,Or.inr ⟨b1,rfl,h.lt1,h.at1⟩,Or.inr ⟨b2,rfl,h.lt2,h.at2⟩⟩
theorem wM (o:Ob) (b1:Option Addr) (c1:Nat) (b2:Option Addr) (c2:Nat) (w:World) (h:ObG w b1 c1 b2 c2 o):
  Calls Tryz.prog 206 #[.agg #[.string o.kind,.string o.name,.string o.team,.slice b1 o.values.length c1,.bool o.ending,.slice b2 o.holds.length c2,.int .i64 o.version]] w fun e w'=>(∃ a1 n1 d1 a2 n2 d2 mid,e=.returned (.agg #[.string o.kind,.string o.name,.string o.team,.slice a1 n1 d1,.bool o.ending,.slice a2 n2 d2,.int .i64 o.version])∧CT w' w.heap.size mid (.slice a1 n1 d1) o.values∧CT w' mid w'.heap.size (.slice a2 n2 d2) o.holds∧w.heap.size≤mid∧mid≤w'.heap.size)∧Bel w w':=by
 have HA:=hid h;clear h;have Ji:ai ((w.alloc (.cells #[.string o.kind,.string o.name,.string o.team,.slice b1 o.values.length c1,.bool o.ending,.slice b2 o.holds.length c2,.int .i64 o.version] 111)).alloc (.cells #[.string ⟨#[]⟩,.string ⟨#[]⟩,.string ⟨#[]⟩,.slice none 0 0,.bool false,.slice none 0 0,.int .i64 0] 111)) w.heap.size 111 7:=(ai.alloc w _ 111 7 rfl).cy _;have Ku:ai ((w.alloc (.cells #[.string o.kind,.string o.name,.string o.team,.slice b1 o.values.length c1,.bool o.ending,.slice b2 o.holds.length c2,.int .i64 o.version] 111)).alloc (.cells #[.string ⟨#[]⟩,.string ⟨#[]⟩,.string ⟨#[]⟩,.slice none 0 0,.bool false,.slice none 0 0,.int .i64 0] 111)) (w.heap.size+1) 111 7:=by
  have:=ai.alloc (w.alloc (.cells #[.string o.kind,.string o.name,.string o.team,.slice b1 o.values.length c1,.bool o.ending,.slice b2 o.holds.length c2,.int .i64 o.version] 111)) #[.string ⟨#[]⟩,.string ⟨#[]⟩,.string ⟨#[]⟩,.slice none 0 0,.bool false,.slice none 0 0,.int .i64 0] 111 7 rfl;have e:(w.alloc (.cells #[.string o.kind,.string o.name,.string o.team,.slice b1 o.values.length c1,.bool o.ending,.slice b2 o.holds.length c2,.int .i64 o.version] 111)).heap.size=w.heap.size+1:=by simp
  rw[e]at this;exact this
 have HO:=hid (And.intro Ji Ku);have hB0:Bel w ((w.alloc (.cells #[.string o.kind,.string o.name,.string o.team,.slice b1 o.values.length c1,.bool o.ending,.slice b2 o.holds.length c2,.int .i64 o.version] 111)).alloc (.cells #[.string ⟨#[]⟩,.string ⟨#[]⟩,.string ⟨#[]⟩,.slice none 0 0,.bool false,.slice none 0 0,.int .i64 0] 111)):=ab (ab br _) _;have gd:=hid hB0;clear Ji Ku hB0;go_enter Tryz.func206,Tryz.ntmps206
 go_wp2_with fail
 refine(oQ b1 c1 o.values _ HA.out.len1 (HA.out.later gd.out).at1).mono ?_;rintro e w1 ⟨⟨a1,n1,d1,rfl,eJ⟩,bl⟩;have cQ:=hid (aa gd.out bl);have vq:=hid (HO.out.1.later bl);have Ej:=hid (HO.out.2.later bl);have vD:Hid (CT w1 w.heap.size w1.heap.size (.slice a1 n1 d1) o.values∧CT w1 (w.heap.size+2) w1.heap.size (.slice a1 n1 d1) o.values):=by
  have e:((w.alloc (.cells #[.string o.kind,.string o.name,.string o.team,.slice b1 o.values.length c1,.bool o.ending,.slice b2 o.holds.length c2,.int .i64 o.version] 111)).alloc (.cells #[.string ⟨#[]⟩,.string ⟨#[]⟩,.string ⟨#[]⟩,.slice none 0 0,.bool false,.slice none 0 0,.int .i64 0] 111)).heap.size=w.heap.size+2:=by simp
  rw[e]at eJ;exact⟨eJ.mono (by omega) nr,eJ⟩
 have k1:∀ q,w1.cell? ⟨w.heap.size,q,none⟩=((w.alloc (.cells #[.string o.kind,.string o.name,.string o.team,.slice b1 o.values.length c1,.bool o.ending,.slice b2 o.holds.length c2,.int .i64 o.version] 111)).alloc (.cells #[.string ⟨#[]⟩,.string ⟨#[]⟩,.string ⟨#[]⟩,.slice none 0 0,.bool false,.slice none 0 0,.int .i64 0] 111)).cell? ⟨w.heap.size,q,none⟩:=fun q=>bl.cell (p:=⟨w.heap.size,q,none⟩) HO.out.1.lt;have jr:=vq.out.frozen;have th:=Ej.out.lt;clear eJ bl;go_wp2_with fail
 have rv:Hid (Bel w (w1.setCell ⟨w.heap.size,3,none⟩ (.slice a1 n1 d1))):=cQ.out.setCell (p:=⟨w.heap.size,3,none⟩) nr _;refine(oQ b2 c2 o.holds _ HA.out.len2 (HA.out.later rv.out).at2).mono ?_;rintro e w2 ⟨⟨a2,n2,d2,rfl,fx⟩,aA⟩;have iH:=hid (aa rv.out aA);have tu:Hid (ai (w1.setCell ⟨w.heap.size,3,none⟩ (.slice a1 n1 d1)) w.heap.size 111 7):=vq.out.setCell 3 _;have pB:Hid (ai (w1.setCell ⟨w.heap.size,3,none⟩ (.slice a1 n1 d1)) (w.heap.size+1) 111 7):=Ej.out.bk (by omega) 3 _;have GY:=hid (tu.out.later aA);have jZ:=hid (pB.out.later aA);have tB:Hid (CT w2 (w.heap.size+2) w1.heap.size (.slice a1 n1 d1) o.values∧CT w2 w1.heap.size w2.heap.size (.slice a2 n2 d2) o.holds∧w1.heap.size≤w2.heap.size):=by
  have e:(w1.setCell ⟨w.heap.size,3,none⟩ (.slice a1 n1 d1)).heap.size=w1.heap.size:=by simp[World.setCell]
  have eU:=aA.size;rw[e]at fx eU;exact⟨(vD.out.2.sc (Or.inl (by omega)) 3 _).later aA,fx,eU⟩
 have e0:w2.cell? ⟨w.heap.size,0,none⟩=some (.string o.kind):=((aA.cell (p:=⟨w.heap.size,0,none⟩) tu.out.lt).trans (aF _ _ _ _ _ _ (Or.inr (by omega)))).trans ((k1 0).trans (by simp));have e1:w2.cell? ⟨w.heap.size,1,none⟩=some (.string o.name):=((aA.cell (p:=⟨w.heap.size,1,none⟩) tu.out.lt).trans (aF _ _ _ _ _ _ (Or.inr (by omega)))).trans ((k1 1).trans (by simp));have e2:w2.cell? ⟨w.heap.size,2,none⟩=some (.string o.team):=((aA.cell (p:=⟨w.heap.size,2,none⟩) tu.out.lt).trans (aF _ _ _ _ _ _ (Or.inr (by omega)))).trans ((k1 2).trans (by simp));have e3:w2.cell? ⟨w.heap.size,3,none⟩=some (.slice a1 n1 d1):=(aA.cell (p:=⟨w.heap.size,3,none⟩) tu.out.lt).trans (eL vq.out 3 (by omega) _);have e4:w2.cell? ⟨w.heap.size,4,none⟩=some (.bool o.ending):=((aA.cell (p:=⟨w.heap.size,4,none⟩) tu.out.lt).trans (aF _ _ _ _ _ _ (Or.inr (by omega)))).trans ((k1 4).trans (by simp));have e5:w2.cell? ⟨w.heap.size,5,none⟩=some (.slice b2 o.holds.length c2):=((aA.cell (p:=⟨w.heap.size,5,none⟩) tu.out.lt).trans (aF _ _ _ _ _ _ (Or.inr (by omega)))).trans ((k1 5).trans (by simp));have e6:w2.cell? ⟨w.heap.size,6,none⟩=some (.int .i64 o.version):=((aA.cell (p:=⟨w.heap.size,6,none⟩) tu.out.lt).trans (aF _ _ _ _ _ _ (Or.inr (by omega)))).trans ((k1 6).trans (by simp));have gX:=GY.out.frozen;have MB:=jZ.out.frozen;obtain⟨y0,kE⟩:=jZ.out.cell 0 (by omega);obtain⟨y1,kF⟩:=jZ.out.cell 1 (by omega);obtain⟨y2,kx⟩:=jZ.out.cell 2 (by omega);obtain⟨y3,kG⟩:=jZ.out.cell 3 (by omega);obtain⟨y4,ti⟩:=jZ.out.cell 4 (by omega);obtain⟨y5,tq⟩:=jZ.out.cell 5 (by omega);obtain⟨y6,tk⟩:=jZ.out.cell 6 (by omega);clear fx aA k1 jr;go_wp2;have HP:Hid (ai (w2.setCell ⟨w.heap.size,5,none⟩ (.slice a2 n2 d2)) (w.heap.size+1) 111 7):=jZ.out.bk (by omega) 5 _;have r:∀ j,j<7→((((((((w2.setCell ⟨w.heap.size,5,none⟩ (.slice a2 n2 d2)).setCell ⟨w.heap.size+1,0,none⟩ (.string o.kind)).setCell ⟨w.heap.size+1,1,none⟩ (.string o.name)).setCell ⟨w.heap.size+1,2,none⟩ (.string o.team)).setCell ⟨w.heap.size+1,3,none⟩ (.slice a1 n1 d1)).setCell ⟨w.heap.size+1,4,none⟩ (.bool o.ending)).setCell ⟨w.heap.size+1,5,none⟩ (.slice a2 n2 d2)).setCell ⟨w.heap.size+1,6,none⟩ (.int .i64 o.version)).cell? ⟨w.heap.size+1,0+(0+j),none⟩=([.string o.kind,.string o.name,.string o.team,.slice a1 n1 d1,.bool o.ending,.slice a2 n2 d2,.int .i64 o.version]:List Value)[j]? :=fun j hj=>cB 0 [.string o.kind,.string o.name,.string o.team,.slice a1 n1 d1,.bool o.ending,.slice a2 n2 d2,.int .i64 o.version] (w2.setCell ⟨w.heap.size,5,none⟩ (.slice a2 n2 d2)) 0 HP.out (by simp) j (by simpa using hj);have r0:((((((((w2.setCell ⟨w.heap.size,5,none⟩ (.slice a2 n2 d2)).setCell ⟨w.heap.size+1,0,none⟩ (.string o.kind)).setCell ⟨w.heap.size+1,1,none⟩ (.string o.name)).setCell ⟨w.heap.size+1,2,none⟩ (.string o.team)).setCell ⟨w.heap.size+1,3,none⟩ (.slice a1 n1 d1)).setCell ⟨w.heap.size+1,4,none⟩ (.bool o.ending)).setCell ⟨w.heap.size+1,5,none⟩ (.slice a2 n2 d2)).setCell ⟨w.heap.size+1,6,none⟩ (.int .i64 o.version)).cell? ⟨w.heap.size+1,0,none⟩=some (.string o.kind):=r 0 (by omega);have r1:((((((((w2.setCell ⟨w.heap.size,5,none⟩ (.slice a2 n2 d2)).setCell ⟨w.heap.size+1,0,none⟩ (.string o.kind)).setCell ⟨w.heap.size+1,1,none⟩ (.string o.name)).setCell ⟨w.heap.size+1,2,none⟩ (.string o.team)).setCell ⟨w.heap.size+1,3,none⟩ (.slice a1 n1 d1)).setCell ⟨w.heap.size+1,4,none⟩ (.bool o.ending)).setCell ⟨w.heap.size+1,5,none⟩ (.slice a2 n2 d2)).setCell ⟨w.heap.size+1,6,none⟩ (.int .i64 o.version)).cell? ⟨w.heap.size+1,1,none⟩=some (.string o.name):=r 1 (by omega);have r2:((((((((w2.setCell ⟨w.heap.size,5,none⟩ (.slice a2 n2 d2)).setCell ⟨w.heap.size+1,0,none⟩ (.string o.kind)).setCell ⟨w.heap.size+1,1,none⟩ (.string o.name)).setCell ⟨w.heap.size+1,2,none⟩ (.string o.team)).setCell ⟨w.heap.size+1,3,none⟩ (.slice a1 n1 d1)).setCell ⟨w.heap.size+1,4,none⟩ (.bool o.ending)).setCell ⟨w.heap.size+1,5,none⟩ (.slice a2 n2 d2)).setCell ⟨w.heap.size+1,6,none⟩ (.int .i64 o.version)).cell? ⟨w.heap.size+1,2,none⟩=some (.string o.team):=r 2 (by omega);have r3:((((((((w2.setCell ⟨w.heap.size,5,none⟩ (.slice a2 n2 d2)).setCell ⟨w.heap.size+1,0,none⟩ (.string o.kind)).setCell ⟨w.heap.size+1,1,none⟩ (.string o.name)).setCell ⟨w.heap.size+1,2,none⟩ (.string o.team)).setCell ⟨w.heap.size+1,3,none⟩ (.slice a1 n1 d1)).setCell ⟨w.heap.size+1,4,none⟩ (.bool o.ending)).setCell ⟨w.heap.size+1,5,none⟩ (.slice a2 n2 d2)).setCell ⟨w.heap.size+1,6,none⟩ (.int .i64 o.version)).cell? ⟨w.heap.size+1,3,none⟩=some (.slice a1 n1 d1):=r 3 (by omega);have r4:((((((((w2.setCell ⟨w.heap.size,5,none⟩ (.slice a2 n2 d2)).setCell ⟨w.heap.size+1,0,none⟩ (.string o.kind)).setCell ⟨w.heap.size+1,1,none⟩ (.string o.name)).setCell ⟨w.heap.size+1,2,none⟩ (.string o.team)).setCell ⟨w.heap.size+1,3,none⟩ (.slice a1 n1 d1)).setCell ⟨w.heap.size+1,4,none⟩ (.bool o.ending)).setCell ⟨w.heap.size+1,5,none⟩ (.slice a2 n2 d2)).setCell ⟨w.heap.size+1,6,none⟩ (.int .i64 o.version)).cell? ⟨w.heap.size+1,4,none⟩=some (.bool o.ending):=r 4 (by omega);have r5:((((((((w2.setCell ⟨w.heap.size,5,none⟩ (.slice a2 n2 d2)).setCell ⟨w.heap.size+1,0,none⟩ (.string o.kind)).setCell ⟨w.heap.size+1,1,none⟩ (.string o.name)).setCell ⟨w.heap.size+1,2,none⟩ (.string o.team)).setCell ⟨w.heap.size+1,3,none⟩ (.slice a1 n1 d1)).setCell ⟨w.heap.size+1,4,none⟩ (.bool o.ending)).setCell ⟨w.heap.size+1,5,none⟩ (.slice a2 n2 d2)).setCell ⟨w.heap.size+1,6,none⟩ (.int .i64 o.version)).cell? ⟨w.heap.size+1,5,none⟩=some (.slice a2 n2 d2):=r 5 (by omega);have r6:((((((((w2.setCell ⟨w.heap.size,5,none⟩ (.slice a2 n2 d2)).setCell ⟨w.heap.size+1,0,none⟩ (.string o.kind)).setCell ⟨w.heap.size+1,1,none⟩ (.string o.name)).setCell ⟨w.heap.size+1,2,none⟩ (.string o.team)).setCell ⟨w.heap.size+1,3,none⟩ (.slice a1 n1 d1)).setCell ⟨w.heap.size+1,4,none⟩ (.bool o.ending)).setCell ⟨w.heap.size+1,5,none⟩ (.slice a2 n2 d2)).setCell ⟨w.heap.size+1,6,none⟩ (.int .i64 o.version)).cell? ⟨w.heap.size+1,6,none⟩=some (.int .i64 o.version):=r 6 (by omega);have Ca:∀ {lo hi:Nat} {v:Value} {ss:List ByteArray},CT w2 lo hi v ss→w.heap.size+1<lo→CT ((((((((w2.setCell ⟨w.heap.size,5,none⟩ (.slice a2 n2 d2)).setCell ⟨w.heap.size+1,0,none⟩ (.string o.kind)).setCell ⟨w.heap.size+1,1,none⟩ (.string o.name)).setCell ⟨w.heap.size+1,2,none⟩ (.string o.team)).setCell ⟨w.heap.size+1,3,none⟩ (.slice a1 n1 d1)).setCell ⟨w.heap.size+1,4,none⟩ (.bool o.ending)).setCell ⟨w.heap.size+1,5,none⟩ (.slice a2 n2 d2)).setCell ⟨w.heap.size+1,6,none⟩ (.int .i64 o.version)) lo hi v ss:=fun h qJ=>(((((((h.sc (Or.inl (by omega)) _ _).sc (Or.inl qJ) _ _).sc (Or.inl qJ) _ _).sc (Or.inl qJ) _ _).sc (Or.inl qJ) _ _).sc (Or.inl qJ) _ _).sc (Or.inl qJ) _ _).sc (Or.inl qJ) _ _;have eU:((((((((w2.setCell ⟨w.heap.size,5,none⟩ (.slice a2 n2 d2)).setCell ⟨w.heap.size+1,0,none⟩ (.string o.kind)).setCell ⟨w.heap.size+1,1,none⟩ (.string o.name)).setCell ⟨w.heap.size+1,2,none⟩ (.string o.team)).setCell ⟨w.heap.size+1,3,none⟩ (.slice a1 n1 d1)).setCell ⟨w.heap.size+1,4,none⟩ (.bool o.ending)).setCell ⟨w.heap.size+1,5,none⟩ (.slice a2 n2 d2)).setCell ⟨w.heap.size+1,6,none⟩ (.int .i64 o.version)).heap.size=w2.heap.size:=by simp[World.setCell]
 refine bodyPost_ret (v:=.agg #[.string o.kind,.string o.name,.string o.team,.slice a1 n1 d1,.bool o.ending,.slice a2 n2 d2,.int .i64 o.version]) (by simp only[results,Tryz.results206];simp[go_sem,r0,r1,r2,r3,r4,r5,r6]) rfl ⟨⟨_,_,_,_,_,_,w1.heap.size,rfl,(Ca tB.out.1 (by omega)).mono (by omega) nr, ?_,by omega, ?_⟩, ?_⟩
 ·rw[eU];exact Ca tB.out.2.1 (by omega)
 ·rw[eU];exact tB.out.2.2
 ·exact aY (a:=w) 0 (B:=w.heap.size+1) (by omega) [.string o.kind,.string o.name,.string o.team,.slice a1 n1 d1,.bool o.ending,.slice a2 n2 d2,.int .i64 o.version] (w2.setCell ⟨w.heap.size,5,none⟩ (.slice a2 n2 d2)) 0 (iH.out.setCell (p:=⟨w.heap.size,5,none⟩) nr _)
theorem fm (w:World) (a:Addr) (v:Value):(w.setCell a v).heap.size=w.heap.size:=by simp[World.setCell]
theorem qw (ss:List ByteArray):∀ u∈ss.map Value.string,u.oneCell'=true:=by
 intro u hu;simp at hu;obtain⟨s,_,rfl⟩:=hu;rfl
theorem ph (W:World) (base:Nat) (h:base≤W.heap.size):(W.alloc (.cells #[] 9)).ownsRow base 9 1 (.slice (some ⟨W.heap.size,0,none⟩) 0 0) 0 []:=
 ⟨rfl,Or.inr ⟨W.heap.size,0,#[],rfl,h,by show (W.heap.push _)[W.heap.size]? =_;simp,nr,by unfold maxLen;omega,rfl,rfl⟩⟩
theorem ai.oJ {w w':World} {B b:Nat} {t:TypeId} {m:Nat} (h:ai w b t m) (hb:Below B w w') (av:b<B):ai w' b t m:=by
 obtain⟨cs,h1,h2⟩:=h;exact⟨cs,by rw[hb.block b av];exact h1,h2⟩
theorem Bl (o:Ob) (b1:Option Addr) (c1:Nat) (b2:Option Addr) (c2:Nat) (w:World) (h:ObG w b1 c1 b2 c2 o):
  Calls Tryz.prog 167 #[.agg #[.string o.kind,.string o.name,.string o.team,.slice b1 o.values.length c1,.bool o.ending,.slice b2 o.holds.length c2,.int .i64 o.version]] w fun e w'=>(∃ a1 n1 d1 a2 n2 d2 mid,e=.returned (.agg #[.string o.kind,.string o.name,.string o.team,.slice a1 n1 d1,.bool o.ending,.slice a2 n2 d2,.int .i64 o.version])∧CT w' w.heap.size mid (.slice a1 n1 d1) o.values∧CT w' mid w'.heap.size (.slice a2 n2 d2) o.holds∧w.heap.size≤mid∧mid≤w'.heap.size)∧Bel w w':=by
 have HA:=hid h;have tw:=h.len1;have ET:=h.len2;clear h;have Ji:ai ((w.alloc (.cells #[.string o.kind,.string o.name,.string o.team,.slice b1 o.values.length c1,.bool o.ending,.slice b2 o.holds.length c2,.int .i64 o.version] 111)).alloc (.cells #[.string ⟨#[]⟩,.string ⟨#[]⟩,.string ⟨#[]⟩,.slice none 0 0,.bool false,.slice none 0 0,.int .i64 0] 111)) w.heap.size 111 7:=(ai.alloc w _ 111 7 rfl).cy _;have Ku:ai ((w.alloc (.cells #[.string o.kind,.string o.name,.string o.team,.slice b1 o.values.length c1,.bool o.ending,.slice b2 o.holds.length c2,.int .i64 o.version] 111)).alloc (.cells #[.string ⟨#[]⟩,.string ⟨#[]⟩,.string ⟨#[]⟩,.slice none 0 0,.bool false,.slice none 0 0,.int .i64 0] 111)) (w.heap.size+1) 111 7:=by
  have:=ai.alloc (w.alloc (.cells #[.string o.kind,.string o.name,.string o.team,.slice b1 o.values.length c1,.bool o.ending,.slice b2 o.holds.length c2,.int .i64 o.version] 111)) #[.string ⟨#[]⟩,.string ⟨#[]⟩,.string ⟨#[]⟩,.slice none 0 0,.bool false,.slice none 0 0,.int .i64 0] 111 7 rfl;have e:(w.alloc (.cells #[.string o.kind,.string o.name,.string o.team,.slice b1 o.values.length c1,.bool o.ending,.slice b2 o.holds.length c2,.int .i64 o.version] 111)).heap.size=w.heap.size+1:=by simp
  rw[e]at this;exact this
 have HO:Hid (ai (((w.alloc (.cells #[.string o.kind,.string o.name,.string o.team,.slice b1 o.values.length c1,.bool o.ending,.slice b2 o.holds.length c2,.int .i64 o.version] 111)).alloc (.cells #[.string ⟨#[]⟩,.string ⟨#[]⟩,.string ⟨#[]⟩,.slice none 0 0,.bool false,.slice none 0 0,.int .i64 0] 111)).alloc (.cells #[] 9)) w.heap.size 111 7∧ai (((w.alloc (.cells #[.string o.kind,.string o.name,.string o.team,.slice b1 o.values.length c1,.bool o.ending,.slice b2 o.holds.length c2,.int .i64 o.version] 111)).alloc (.cells #[.string ⟨#[]⟩,.string ⟨#[]⟩,.string ⟨#[]⟩,.slice none 0 0,.bool false,.slice none 0 0,.int .i64 0] 111)).alloc (.cells #[] 9)) (w.heap.size+1) 111 7):=⟨Ji.cy _,Ku.cy _⟩
 have gd:Hid (Bel w (((w.alloc (.cells #[.string o.kind,.string o.name,.string o.team,.slice b1 o.values.length c1,.bool o.ending,.slice b2 o.holds.length c2,.int .i64 o.version] 111)).alloc (.cells #[.string ⟨#[]⟩,.string ⟨#[]⟩,.string ⟨#[]⟩,.slice none 0 0,.bool false,.slice none 0 0,.int .i64 0] 111)).alloc (.cells #[] 9))):=ab (ab (ab br _) _) _;clear Ji Ku;obtain⟨i0,hi,mR,jr,gX⟩:=info_parts Tryz.si;go_enter Tryz.func167,Tryz.ntmps167
 go_wp2_with (at_builtin;refine fQ _ rfl _ _ 94 rfl (w.heap.size+2) 9 i0 (.string ByteArray.empty) 1 16 Tryz.underlying94 hi mR jr gX rfl (by decide) _ 0 [] rfl ?c0 b1 o.values.length c1 (o.values.map Value.string) rfl ?c1 ?c2 ?c3 ?c4 ?c5 ?c6 ?_)
 case c0=>
  have:=ph ((w.alloc (.cells #[.string o.kind,.string o.name,.string o.team,.slice b1 o.values.length c1,.bool o.ending,.slice b2 o.holds.length c2,.int .i64 o.version] 111)).alloc (.cells #[.string ⟨#[]⟩,.string ⟨#[]⟩,.string ⟨#[]⟩,.slice none 0 0,.bool false,.slice none 0 0,.int .i64 0] 111)) (w.heap.size+2) (by simp);have e:((w.alloc (.cells #[.string o.kind,.string o.name,.string o.team,.slice b1 o.values.length c1,.bool o.ending,.slice b2 o.holds.length c2,.int .i64 o.version] 111)).alloc (.cells #[.string ⟨#[]⟩,.string ⟨#[]⟩,.string ⟨#[]⟩,.slice none 0 0,.bool false,.slice none 0 0,.int .i64 0] 111)).heap.size=w.heap.size+1+1:=by simp
  rw[e]at this;exact this
 case c1=>simp
 case c2=>exact(HA.out.later gd.out).at1.src
 case c3=>exact qw _
 case c4=>unfold maxLen;omega
 case c5=>omega
 case c6=>simp
 intro v1 w1 cq ct _;have eJ:CT w1 (w.heap.size+2) w1.heap.size v1 o.values:=CT.ri (by simpa using cq);have bl:Below (w.heap.size+2) (((w.alloc (.cells #[.string o.kind,.string o.name,.string o.team,.slice b1 o.values.length c1,.bool o.ending,.slice b2 o.holds.length c2,.int .i64 o.version] 111)).alloc (.cells #[.string ⟨#[]⟩,.string ⟨#[]⟩,.string ⟨#[]⟩,.slice none 0 0,.bool false,.slice none 0 0,.int .i64 0] 111)).alloc (.cells #[] 9)) w1:=Below.grown br ct (by simp) (fun k e=>by injection e with e;subst e;exact nr);obtain⟨a1,n1,d1,pE⟩:∃ a n c,v1=.slice a n c:=by
  rcases eJ with⟨h,_⟩|⟨g,cap,h,_⟩
  ·exact⟨_,_,_,h⟩
  ·exact⟨_,_,_,h⟩
 rw[pE]at eJ ⊢;have cQ:=hid (gd.out.trans (bl.mono (by omega)));have vq:=hid (HO.out.1.oJ bl (by omega));have Ej:=hid (HO.out.2.oJ bl (by omega));have vD:=hid eJ;have k1:∀ q,w1.cell? ⟨w.heap.size,q,none⟩=((w.alloc (.cells #[.string o.kind,.string o.name,.string o.team,.slice b1 o.values.length c1,.bool o.ending,.slice b2 o.holds.length c2,.int .i64 o.version] 111)).alloc (.cells #[.string ⟨#[]⟩,.string ⟨#[]⟩,.string ⟨#[]⟩,.slice none 0 0,.bool false,.slice none 0 0,.int .i64 0] 111)).cell? ⟨w.heap.size,q,none⟩:=fun q=>(bl.cell (p:=⟨w.heap.size,q,none⟩) (by show w.heap.size<w.heap.size+2;omega)).trans (World.cell?_alloc_past _ _ _ (by simp;omega));have Mm:=vq.out.frozen;have th:w.heap.size+2<w1.heap.size:=by have:=bl.size;simp at this;omega
 have tf:w.heap.size<w1.heap.size:=by omega
 have Ns:w.heap.size+1<w1.heap.size:=by omega
 clear eJ bl cq ct pE;have rv:Hid (Bel w ((w1.setCell ⟨w.heap.size,3,none⟩ (.slice a1 n1 d1)).alloc (.cells #[] 9))):=ab (cQ.out.setCell (p:=⟨w.heap.size,3,none⟩) nr _) _;go_wp2_with (at_builtin;refine fQ _ rfl _ _ 94 rfl w1.heap.size 9 i0 (.string ByteArray.empty) 1 16 Tryz.underlying94 hi mR jr gX rfl (by decide) _ 0 [] rfl ?c0 b2 o.holds.length c2 (o.holds.map Value.string) rfl ?c1 ?c2 ?c3 ?c4 ?c5 ?c6 ?_)
 case c0=>
  have:=ph (w1.setCell ⟨w.heap.size,3,none⟩ (.slice a1 n1 d1)) w1.heap.size (by simp[World.setCell]);have e:(w1.setCell ⟨w.heap.size,3,none⟩ (.slice a1 n1 d1)).heap.size=w1.heap.size:=fm _ _ _;rw[e]at this;exact this
 case c1=>simp
 case c2=>exact(HA.out.later rv.out).at2.src
 case c3=>exact qw _
 case c4=>unfold maxLen;omega
 case c5=>omega
 case c6=>simp[World.setCell]
 intro v2 w2 cq ct _;have fx:CT w2 w1.heap.size w2.heap.size v2 o.holds:=CT.ri (by simpa using cq);have aA:Below w1.heap.size ((w1.setCell ⟨w.heap.size,3,none⟩ (.slice a1 n1 d1)).alloc (.cells #[] 9)) w2:=Below.grown br ct (by simp[World.setCell]) (fun k e=>by injection e with e;subst e;exact nr);obtain⟨a2,n2,d2,rJ⟩:∃ a n c,v2=.slice a n c:=by
  rcases fx with⟨h,_⟩|⟨g,cap,h,_⟩
  ·exact⟨_,_,_,h⟩
  ·exact⟨_,_,_,h⟩
 rw[rJ]at fx ⊢;have iH:=hid (rv.out.trans (aA.mono (by omega)));have GY:Hid (ai w2 w.heap.size 111 7):=((vq.out.setCell 3 _).cy _).oJ aA tf;have jZ:Hid (ai w2 (w.heap.size+1) 111 7):=((Ej.out.bk (by omega) 3 _).cy _).oJ aA Ns;have D9:w1.heap.size≤w2.heap.size:=by have:=aA.size;simp[World.setCell]at this;omega
 have tB:Hid (CT w2 (w.heap.size+2) w1.heap.size (.slice a1 n1 d1) o.values∧CT w2 w1.heap.size w2.heap.size (.slice a2 n2 d2) o.holds∧w1.heap.size≤w2.heap.size):=by
  refine⟨?_,fx,D9⟩;have h1:CT ((w1.setCell ⟨w.heap.size,3,none⟩ (.slice a1 n1 d1)).alloc (.cells #[] 9)) (w.heap.size+2) w1.heap.size (.slice a1 n1 d1) o.values:=(vD.out.sc (Or.inl (by omega)) 3 _).later (ab br _);rcases h1 with h|⟨g,cap,e,g1,g2,g3,g4,g5⟩
  ·exact Or.inl h
  ·exact Or.inr ⟨g,cap,e,g1,g2,g3.oJ aA g2,g4,fun i hi=>(aA.cell (p:=⟨g,i,none⟩) g2).trans (g5 i hi)⟩
 have e0:w2.cell? ⟨w.heap.size,0,none⟩=some (.string o.kind):=((aA.cell (p:=⟨w.heap.size,0,none⟩) tf).trans ((World.cell?_alloc_past (w:=(w1.setCell ⟨w.heap.size,3,none⟩ (.slice a1 n1 d1))) _ w.heap.size 0 (by rw[fm];omega)).trans (aF _ _ _ _ _ _ (Or.inr (by omega))))).trans ((k1 0).trans (by simp));have e1:w2.cell? ⟨w.heap.size,1,none⟩=some (.string o.name):=((aA.cell (p:=⟨w.heap.size,1,none⟩) tf).trans ((World.cell?_alloc_past (w:=(w1.setCell ⟨w.heap.size,3,none⟩ (.slice a1 n1 d1))) _ w.heap.size 1 (by rw[fm];omega)).trans (aF _ _ _ _ _ _ (Or.inr (by omega))))).trans ((k1 1).trans (by simp));have e2:w2.cell? ⟨w.heap.size,2,none⟩=some (.string o.team):=((aA.cell (p:=⟨w.heap.size,2,none⟩) tf).trans ((World.cell?_alloc_past (w:=(w1.setCell ⟨w.heap.size,3,none⟩ (.slice a1 n1 d1))) _ w.heap.size 2 (by rw[fm];omega)).trans (aF _ _ _ _ _ _ (Or.inr (by omega))))).trans ((k1 2).trans (by simp));have e3:w2.cell? ⟨w.heap.size,3,none⟩=some (.slice a1 n1 d1):=(aA.cell (p:=⟨w.heap.size,3,none⟩) tf).trans ((World.cell?_alloc_past (w:=(w1.setCell ⟨w.heap.size,3,none⟩ (.slice a1 n1 d1))) _ w.heap.size 3 (by rw[fm];omega)).trans (eL vq.out 3 (by omega) _));have e4:w2.cell? ⟨w.heap.size,4,none⟩=some (.bool o.ending):=((aA.cell (p:=⟨w.heap.size,4,none⟩) tf).trans ((World.cell?_alloc_past (w:=(w1.setCell ⟨w.heap.size,3,none⟩ (.slice a1 n1 d1))) _ w.heap.size 4 (by rw[fm];omega)).trans (aF _ _ _ _ _ _ (Or.inr (by omega))))).trans ((k1 4).trans (by simp));have e5:w2.cell? ⟨w.heap.size,5,none⟩=some (.slice b2 o.holds.length c2):=((aA.cell (p:=⟨w.heap.size,5,none⟩) tf).trans ((World.cell?_alloc_past (w:=(w1.setCell ⟨w.heap.size,3,none⟩ (.slice a1 n1 d1))) _ w.heap.size 5 (by rw[fm];omega)).trans (aF _ _ _ _ _ _ (Or.inr (by omega))))).trans ((k1 5).trans (by simp));have e6:w2.cell? ⟨w.heap.size,6,none⟩=some (.int .i64 o.version):=((aA.cell (p:=⟨w.heap.size,6,none⟩) tf).trans ((World.cell?_alloc_past (w:=(w1.setCell ⟨w.heap.size,3,none⟩ (.slice a1 n1 d1))) _ w.heap.size 6 (by rw[fm];omega)).trans (aF _ _ _ _ _ _ (Or.inr (by omega))))).trans ((k1 6).trans (by simp));have hz2a:=GY.out.frozen;have MB:=jZ.out.frozen;obtain⟨y0,kE⟩:=jZ.out.cell 0 (by omega);obtain⟨y1,kF⟩:=jZ.out.cell 1 (by omega);obtain⟨y2,kx⟩:=jZ.out.cell 2 (by omega);obtain⟨y3,kG⟩:=jZ.out.cell 3 (by omega);obtain⟨y4,ti⟩:=jZ.out.cell 4 (by omega);obtain⟨y5,tq⟩:=jZ.out.cell 5 (by omega);obtain⟨y6,tk⟩:=jZ.out.cell 6 (by omega);clear fx aA k1 Mm cq ct rJ;go_wp2;have HP:Hid (ai (w2.setCell ⟨w.heap.size,5,none⟩ (.slice a2 n2 d2)) (w.heap.size+1) 111 7):=jZ.out.bk (by omega) 5 _;have r:∀ j,j<7→((((((((w2.setCell ⟨w.heap.size,5,none⟩ (.slice a2 n2 d2)).setCell ⟨w.heap.size+1,0,none⟩ (.string o.kind)).setCell ⟨w.heap.size+1,1,none⟩ (.string o.name)).setCell ⟨w.heap.size+1,2,none⟩ (.string o.team)).setCell ⟨w.heap.size+1,3,none⟩ (.slice a1 n1 d1)).setCell ⟨w.heap.size+1,4,none⟩ (.bool o.ending)).setCell ⟨w.heap.size+1,5,none⟩ (.slice a2 n2 d2)).setCell ⟨w.heap.size+1,6,none⟩ (.int .i64 o.version)).cell? ⟨w.heap.size+1,0+(0+j),none⟩=([.string o.kind,.string o.name,.string o.team,.slice a1 n1 d1,.bool o.ending,.slice a2 n2 d2,.int .i64 o.version]:List Value)[j]? :=fun j hj=>cB 0 [.string o.kind,.string o.name,.string o.team,.slice a1 n1 d1,.bool o.ending,.slice a2 n2 d2,.int .i64 o.version] (w2.setCell ⟨w.heap.size,5,none⟩ (.slice a2 n2 d2)) 0 HP.out (by simp) j (by simpa using hj);have r0:((((((((w2.setCell ⟨w.heap.size,5,none⟩ (.slice a2 n2 d2)).setCell ⟨w.heap.size+1,0,none⟩ (.string o.kind)).setCell ⟨w.heap.size+1,1,none⟩ (.string o.name)).setCell ⟨w.heap.size+1,2,none⟩ (.string o.team)).setCell ⟨w.heap.size+1,3,none⟩ (.slice a1 n1 d1)).setCell ⟨w.heap.size+1,4,none⟩ (.bool o.ending)).setCell ⟨w.heap.size+1,5,none⟩ (.slice a2 n2 d2)).setCell ⟨w.heap.size+1,6,none⟩ (.int .i64 o.version)).cell? ⟨w.heap.size+1,0,none⟩=some (.string o.kind):=r 0 (by omega);have r1:((((((((w2.setCell ⟨w.heap.size,5,none⟩ (.slice a2 n2 d2)).setCell ⟨w.heap.size+1,0,none⟩ (.string o.kind)).setCell ⟨w.heap.size+1,1,none⟩ (.string o.name)).setCell ⟨w.heap.size+1,2,none⟩ (.string o.team)).setCell ⟨w.heap.size+1,3,none⟩ (.slice a1 n1 d1)).setCell ⟨w.heap.size+1,4,none⟩ (.bool o.ending)).setCell ⟨w.heap.size+1,5,none⟩ (.slice a2 n2 d2)).setCell ⟨w.heap.size+1,6,none⟩ (.int .i64 o.version)).cell? ⟨w.heap.size+1,1,none⟩=some (.string o.name):=r 1 (by omega);have r2:((((((((w2.setCell ⟨w.heap.size,5,none⟩ (.slice a2 n2 d2)).setCell ⟨w.heap.size+1,0,none⟩ (.string o.kind)).setCell ⟨w.heap.size+1,1,none⟩ (.string o.name)).setCell ⟨w.heap.size+1,2,none⟩ (.string o.team)).setCell ⟨w.heap.size+1,3,none⟩ (.slice a1 n1 d1)).setCell ⟨w.heap.size+1,4,none⟩ (.bool o.ending)).setCell ⟨w.heap.size+1,5,none⟩ (.slice a2 n2 d2)).setCell ⟨w.heap.size+1,6,none⟩ (.int .i64 o.version)).cell? ⟨w.heap.size+1,2,none⟩=some (.string o.team):=r 2 (by omega);have r3:((((((((w2.setCell ⟨w.heap.size,5,none⟩ (.slice a2 n2 d2)).setCell ⟨w.heap.size+1,0,none⟩ (.string o.kind)).setCell ⟨w.heap.size+1,1,none⟩ (.string o.name)).setCell ⟨w.heap.size+1,2,none⟩ (.string o.team)).setCell ⟨w.heap.size+1,3,none⟩ (.slice a1 n1 d1)).setCell ⟨w.heap.size+1,4,none⟩ (.bool o.ending)).setCell ⟨w.heap.size+1,5,none⟩ (.slice a2 n2 d2)).setCell ⟨w.heap.size+1,6,none⟩ (.int .i64 o.version)).cell? ⟨w.heap.size+1,3,none⟩=some (.slice a1 n1 d1):=r 3 (by omega);have r4:((((((((w2.setCell ⟨w.heap.size,5,none⟩ (.slice a2 n2 d2)).setCell ⟨w.heap.size+1,0,none⟩ (.string o.kind)).setCell ⟨w.heap.size+1,1,none⟩ (.string o.name)).setCell ⟨w.heap.size+1,2,none⟩ (.string o.team)).setCell ⟨w.heap.size+1,3,none⟩ (.slice a1 n1 d1)).setCell ⟨w.heap.size+1,4,none⟩ (.bool o.ending)).setCell ⟨w.heap.size+1,5,none⟩ (.slice a2 n2 d2)).setCell ⟨w.heap.size+1,6,none⟩ (.int .i64 o.version)).cell? ⟨w.heap.size+1,4,none⟩=some (.bool o.ending):=r 4 (by omega);have r5:((((((((w2.setCell ⟨w.heap.size,5,none⟩ (.slice a2 n2 d2)).setCell ⟨w.heap.size+1,0,none⟩ (.string o.kind)).setCell ⟨w.heap.size+1,1,none⟩ (.string o.name)).setCell ⟨w.heap.size+1,2,none⟩ (.string o.team)).setCell ⟨w.heap.size+1,3,none⟩ (.slice a1 n1 d1)).setCell ⟨w.heap.size+1,4,none⟩ (.bool o.ending)).setCell ⟨w.heap.size+1,5,none⟩ (.slice a2 n2 d2)).setCell ⟨w.heap.size+1,6,none⟩ (.int .i64 o.version)).cell? ⟨w.heap.size+1,5,none⟩=some (.slice a2 n2 d2):=r 5 (by omega);have r6:((((((((w2.setCell ⟨w.heap.size,5,none⟩ (.slice a2 n2 d2)).setCell ⟨w.heap.size+1,0,none⟩ (.string o.kind)).setCell ⟨w.heap.size+1,1,none⟩ (.string o.name)).setCell ⟨w.heap.size+1,2,none⟩ (.string o.team)).setCell ⟨w.heap.size+1,3,none⟩ (.slice a1 n1 d1)).setCell ⟨w.heap.size+1,4,none⟩ (.bool o.ending)).setCell ⟨w.heap.size+1,5,none⟩ (.slice a2 n2 d2)).setCell ⟨w.heap.size+1,6,none⟩ (.int .i64 o.version)).cell? ⟨w.heap.size+1,6,none⟩=some (.int .i64 o.version):=r 6 (by omega);have Ca:∀ {lo hi:Nat} {v:Value} {ss:List ByteArray},CT w2 lo hi v ss→w.heap.size+1<lo→CT ((((((((w2.setCell ⟨w.heap.size,5,none⟩ (.slice a2 n2 d2)).setCell ⟨w.heap.size+1,0,none⟩ (.string o.kind)).setCell ⟨w.heap.size+1,1,none⟩ (.string o.name)).setCell ⟨w.heap.size+1,2,none⟩ (.string o.team)).setCell ⟨w.heap.size+1,3,none⟩ (.slice a1 n1 d1)).setCell ⟨w.heap.size+1,4,none⟩ (.bool o.ending)).setCell ⟨w.heap.size+1,5,none⟩ (.slice a2 n2 d2)).setCell ⟨w.heap.size+1,6,none⟩ (.int .i64 o.version)) lo hi v ss:=fun h qJ=>(((((((h.sc (Or.inl (by omega)) _ _).sc (Or.inl qJ) _ _).sc (Or.inl qJ) _ _).sc (Or.inl qJ) _ _).sc (Or.inl qJ) _ _).sc (Or.inl qJ) _ _).sc (Or.inl qJ) _ _).sc (Or.inl qJ) _ _;have eU:((((((((w2.setCell ⟨w.heap.size,5,none⟩ (.slice a2 n2 d2)).setCell ⟨w.heap.size+1,0,none⟩ (.string o.kind)).setCell ⟨w.heap.size+1,1,none⟩ (.string o.name)).setCell ⟨w.heap.size+1,2,none⟩ (.string o.team)).setCell ⟨w.heap.size+1,3,none⟩ (.slice a1 n1 d1)).setCell ⟨w.heap.size+1,4,none⟩ (.bool o.ending)).setCell ⟨w.heap.size+1,5,none⟩ (.slice a2 n2 d2)).setCell ⟨w.heap.size+1,6,none⟩ (.int .i64 o.version)).heap.size=w2.heap.size:=by simp[World.setCell]
 refine bodyPost_ret (v:=.agg #[.string o.kind,.string o.name,.string o.team,.slice a1 n1 d1,.bool o.ending,.slice a2 n2 d2,.int .i64 o.version]) (by simp only[results,Tryz.results167];simp[go_sem,r0,r1,r2,r3,r4,r5,r6]) rfl ⟨⟨_,_,_,_,_,_,w1.heap.size,rfl,(Ca tB.out.1 (by omega)).mono (by omega) nr, ?_,by omega, ?_⟩, ?_⟩
 ·rw[eU];exact Ca tB.out.2.1 (by omega)
 ·rw[eU];exact tB.out.2.2
 ·exact aY (a:=w) 0 (B:=w.heap.size+1) (by omega) [.string o.kind,.string o.name,.string o.team,.slice a1 n1 d1,.bool o.ending,.slice a2 n2 d2,.int .i64 o.version] (w2.setCell ⟨w.heap.size,5,none⟩ (.slice a2 n2 d2)) 0 (iH.out.setCell (p:=⟨w.heap.size,5,none⟩) nr _)
end Go.Proofs.YtbiokpmdghmgcaaGreat
namespace Go.Proofs.YtbiokpmdghmgcaaGreat
end Go.Proofs.YtbiokpmdghmgcaaGreat
namespace Go.Proofs.YtbiokpmdghmgcaaGreat
open Go.RowKit Go.Deep
set_option maxHeartbeats 40000000
theorem ai.gU (W:World) (cs:Array Value) (t:TypeId) (m n:Nat) (h:cs.size=m) (hn:n=W.heap.size):ai (W.alloc (.cells cs t)) n t m:=by
 subst hn;exact ai.alloc W cs t m h
def Ob.sized (o:Ob):Prop:=o.kind.size≤maxLen∧o.name.size≤maxLen∧o.team.size≤maxLen
theorem IJ (o:Ob) (v1 v2:Value) (left:Int) (w:World) (h0:0≤left) (h1:left≤1048576) (t1:bU w v1 o.values) (t2:bU w v2 o.holds) (hs:o.sized):
  Calls Tryz.prog 55 #[.agg #[.string o.kind,.string o.name,.string o.team,v1,.bool o.ending,v2,.int .i64 o.version],.int .i64 left] w fun e w'=>(∃ r:Int,e=.returned (.int .i64 r)∧szP (o.values.length≤1048576∧o.holds.length≤1048576) left r)∧Bel w w':=by
 obtain⟨s1,s2,s3⟩:=hs;unfold maxLen at s1 s2 s3;have HT:Hid (∀ o',bU (w.alloc o') v1 o.values∧bU (w.alloc o') v2 o.holds):=fun o'=>⟨t1.later (ab br o'),t2.later (ab br o')⟩
 clear t1 t2;by_cases c1:left<(o.kind.size:Int)
 ·go_enter Tryz.func55,Tryz.ntmps55
  go_wp2;go_ret;exact⟨⟨_,rfl,by unfold szP;exact⟨by omega,by omega,by omega⟩⟩,ab br _⟩
 by_cases c2:left - o.kind.size<(o.name.size:Int)
 ·go_enter Tryz.func55,Tryz.ntmps55
  go_wp2;go_ret;exact⟨⟨_,rfl,by unfold szP;exact⟨by omega,by omega,by omega⟩⟩,ab br _⟩
 by_cases c3:left - o.kind.size - o.name.size<(o.team.size:Int)
 ·go_enter Tryz.func55,Tryz.ntmps55
  go_wp2;go_ret;exact⟨⟨_,rfl,by unfold szP;exact⟨by omega,by omega,by omega⟩⟩,ab br _⟩
 go_enter Tryz.func55,Tryz.ntmps55
 go_wp2_with fail
 refine(kt v1 o.values _ _ (by omega) (by omega) (HT.out _).1).mono ?_;rintro e w1 ⟨⟨r,rfl,hr⟩,rfl⟩;have q1: -1≤r:=hr.1;have q2:r≤left - o.kind.size - o.name.size - o.team.size:=hr.2.1;have HR:Hid (0≤r→(o.values.length:Int)≤1048576):=fun h=>by have:=hr.2.2 h;omega
 clear hr;by_cases c4:r<0
 ·go_wp2;go_ret;exact⟨⟨_,rfl,by unfold szP;exact⟨by omega,by omega,by omega⟩⟩,ab br _⟩
 go_wp2_with fail
 refine(kt v2 o.holds _ _ (by omega) (by omega) (HT.out _).2).mono ?_;rintro e w2 ⟨⟨r2,rfl,ES⟩,rfl⟩;have q3: -1≤r2:=ES.1;have q4:r2≤r:=ES.2.1;have mn:Hid (0≤r2→(o.holds.length:Int)≤1048576):=fun h=>by have:=ES.2.2 h;omega
 clear ES;by_cases c5:r2<0
 all_goals
  go_wp2;go_ret;refine⟨⟨_,rfl, ?_⟩,ab br _⟩;unfold szP;exact⟨by omega,by omega,fun h=>⟨by have:=HR.out (by omega);omega,by have:=mn.out (by omega);omega⟩⟩
theorem IZ (o:Ob) (v1 v2:Value) (w:World) (tw:o.values.length≤1048576) (ET:o.holds.length≤1048576) (t1:bU w v1 o.values) (t2:bU w v2 o.holds):
  Calls Tryz.prog 77 #[.agg #[.string o.kind,.string o.name,.string o.team,v1,.bool o.ending,v2,.int .i64 o.version]] w fun e w'=>(∃ b1 b2,e=.returned (.agg #[.string o.kind,.string o.name,.string o.team,.slice (some ⟨b1,0,none⟩) o.values.length o.values.length,.bool o.ending,.slice (some ⟨b2,0,none⟩) o.holds.length o.holds.length,.int .i64 o.version])∧i7 w' b1 b2 o∧ai w' b1 9 o.values.length∧ai w' b2 9 o.holds.length∧w.heap.size≤b1∧b1<b2)∧Bel w w':=by
 have HT:Hid (∀ W,Bel w W→bU W v1 o.values∧bU W v2 o.holds):=fun W h=>⟨t1.later h,t2.later h⟩
 clear t1 t2;go_enter Tryz.func77,Tryz.ntmps77
 go_wp2_with fail
 refine(ku v1 o.values _ tw (HT.out _ (by repeat(first|exact br|refine ab ?_ _))).1).mono ?_;rintro e w1 ⟨I6,rfl,rfl,Ks,Ei⟩;have vD:=hid (And.intro Ks Ei);clear Ks Ei;go_wp2_with fail
 refine(ku v2 o.holds _ ET (HT.out _ (by repeat(first|exact br|refine ab ?_ _))).2).mono ?_;rintro e w2 ⟨cs2,rfl,rfl,D9,Kj⟩;have tB:=hid (And.intro D9 Kj);clear D9 Kj HT;go_wp2;refine bodyPost_ret (v:=.agg #[.string o.kind,.string o.name,.string o.team,.slice (some ⟨w.heap.size+1+1+1,0,none⟩) o.values.length o.values.length,.bool o.ending,.slice (some ⟨w.heap.size+1+1+1+1,0,none⟩) o.holds.length o.holds.length,.int .i64 o.version]) (by simp[results,Tryz.results77,go_sem]) rfl ⟨⟨w.heap.size+1+1+1,w.heap.size+1+1+1+1,rfl,⟨by simp,by simp,tw,ET,fun i hi=> ?_,fun i hi=> ?_⟩, ?_, ?_,by omega,by omega⟩, ?_⟩
 ·rw[World.cell?_alloc_past _ _ _ (by simp),World.cell?_alloc_at I6 9 _ _ (by simp)];exact vD.out.2 i hi
 ·rw[World.cell?_alloc_at cs2 9 _ _ (by simp)];exact tB.out.2 i hi
 ·exact(ai.gU _ I6 9 _ _ vD.out.1 (by simp)).cy _
 ·exact ai.gU _ cs2 9 _ _ tB.out.1 (by simp)
 ·repeat(first|exact br|refine ab ?_ _)
theorem rK (a a':Option Addr) (c c':Nat) (w:World):
  Calls Tryz.prog 152 #[.slice a 0 c,.slice a' 0 c'] w fun e w'=>e=.returned (.bool true)∧w=w':=by
 go_enter Tryz.func152,Tryz.ntmps152
 go_wp2;refine wp_loop_rounds 1 ?_;rw[rounds_succ];go_wp2;go_ret;exact⟨rfl,rfl⟩
theorem m9 (v v':Value) (ss:List ByteArray) (w:World) (h:bU w v ss) (h':bU w v' ss):
  Calls Tryz.prog 152 #[v,v'] w fun e w'=>e=.returned (.bool true)∧Bel w w':=by
 have nil:∀ {u:Value},bU w u []→∃ a c,u=.slice a 0 c:=by
  intro u hu;rcases hu with⟨a,c,rfl,_⟩|⟨b,off,cap,rfl,_⟩
  ·exact⟨a,c,rfl⟩
  ·exact⟨_,_,rfl⟩
 by_cases h0:ss=[]
 ·subst h0;obtain⟨a,c,rfl⟩:=nil h;obtain⟨a',c',rfl⟩:=nil h';refine(rK a a' c c' w).mono ?_;rintro e w' ⟨rfl,rfl⟩;exact⟨rfl,br⟩
 ·rcases h with⟨_,_,_,e⟩|⟨b,off,cap,rfl,_,_,h3,h4⟩
  ·exact absurd e h0
  rcases h' with⟨_,_,_,e⟩|⟨b',off',yX,rfl,_,_,_,h4'⟩
  ·exact absurd e h0
  exact mU b off cap b' off' yX ss w h3 h4 h4'
theorem Iz (o:Ob) (v1 v2 u1 u2:Value) (w:World) (t1:bU w v1 o.values) (t2:bU w v2 o.holds) (r1:bU w u1 o.values) (r2:bU w u2 o.holds):
  Calls Tryz.prog 101 #[.agg #[.string o.kind,.string o.name,.string o.team,v1,.bool o.ending,v2,.int .i64 o.version],.agg #[.string o.kind,.string o.name,.string o.team,u1,.bool o.ending,u2,.int .i64 o.version]] w fun e w'=>e=.returned (.bool true)∧Bel w w':=by
 have HT:Hid (∀ W,Bel w W→(bU W v1 o.values∧bU W u1 o.values)∧bU W v2 o.holds∧bU W u2 o.holds):=fun W h=>⟨⟨t1.later h,r1.later h⟩,t2.later h,r2.later h⟩
 clear t1 t2 r1 r2;have HB:Hid (Bel w ((w.alloc (.cells #[.string o.kind,.string o.name,.string o.team,v1,.bool o.ending,v2,.int .i64 o.version] 111)).alloc (.cells #[.string o.kind,.string o.name,.string o.team,u1,.bool o.ending,u2,.int .i64 o.version] 111))):=ab (ab br _) _;go_enter Tryz.func101,Tryz.ntmps101
 go_wp2_with fail
 refine(m9 v1 u1 o.values _ (HT.out _ HB.out).1.1 (HT.out _ HB.out).1.2).mono ?_;rintro e w1 ⟨rfl,bl⟩;have cQ:=hid (aa HB.out bl);have k1:∀ q,w1.cell? ⟨w.heap.size,q,none⟩=((w.alloc (.cells #[.string o.kind,.string o.name,.string o.team,v1,.bool o.ending,v2,.int .i64 o.version] 111)).alloc (.cells #[.string o.kind,.string o.name,.string o.team,u1,.bool o.ending,u2,.int .i64 o.version] 111)).cell? ⟨w.heap.size,q,none⟩:=fun q=>bl.cell (p:=⟨w.heap.size,q,none⟩) (by simp;omega);have EM:∀ q,w1.cell? ⟨w.heap.size+1,q,none⟩=((w.alloc (.cells #[.string o.kind,.string o.name,.string o.team,v1,.bool o.ending,v2,.int .i64 o.version] 111)).alloc (.cells #[.string o.kind,.string o.name,.string o.team,u1,.bool o.ending,u2,.int .i64 o.version] 111)).cell? ⟨w.heap.size+1,q,none⟩:=fun q=>bl.cell (p:=⟨w.heap.size+1,q,none⟩) (by simp);have z1:w.heap.size+1<w1.heap.size:=by have:=bl.size;simp at this;omega
 clear bl;go_wp2_with fail
 refine(m9 v2 u2 o.holds _ (HT.out _ cQ.out).2.1 (HT.out _ cQ.out).2.2).mono ?_;rintro e w2 ⟨rfl,aA⟩;have iH:=hid (aa cQ.out aA);have k2:∀ q,w2.cell? ⟨w.heap.size,q,none⟩=((w.alloc (.cells #[.string o.kind,.string o.name,.string o.team,v1,.bool o.ending,v2,.int .i64 o.version] 111)).alloc (.cells #[.string o.kind,.string o.name,.string o.team,u1,.bool o.ending,u2,.int .i64 o.version] 111)).cell? ⟨w.heap.size,q,none⟩:=fun q=>(aA.cell (p:=⟨w.heap.size,q,none⟩) (by show w.heap.size<w1.heap.size;omega)).trans (k1 q);have H8:∀ q,w2.cell? ⟨w.heap.size+1,q,none⟩=((w.alloc (.cells #[.string o.kind,.string o.name,.string o.team,v1,.bool o.ending,v2,.int .i64 o.version] 111)).alloc (.cells #[.string o.kind,.string o.name,.string o.team,u1,.bool o.ending,u2,.int .i64 o.version] 111)).cell? ⟨w.heap.size+1,q,none⟩:=fun q=>(aA.cell (p:=⟨w.heap.size+1,q,none⟩) z1).trans (EM q);clear aA k1 EM;go_wp2;go_ret;exact⟨rfl,iH.out⟩
end Go.Proofs.YtbiokpmdghmgcaaGreat
