import Derived.Deep.DeepCutAuto
import Derived.Test.YtbiokpmdghmgcaaGreatBkI
namespace Go.Proofs.YtbiokpmdghmgcaaGreat
open Go.RowKit Go.Deep
theorem wJ (i:Nat):∀ (l:List Nat) (a:Nat),(l.foldl (·|||·) a).testBit i=(a.testBit i||l.any (fun x=>x.testBit i))
 |[],a=>by simp
 |x::l,a=>by rw[List.foldl_cons,wJ i l,Nat.testBit_or,List.any_cons,Bool.or_assoc]
theorem Bc (v:Int) (i:Nat):(bit v).testBit i=decide (v.toNat=i):=by
 unfold bit;rw[Nat.one_shiftLeft,Nat.testBit_two_pow]
theorem ve (l:List Int) (i:Nat):(setOf l).testBit i=l.any (fun x=>decide (x.toNat=i)):=by
 unfold setOf;rw[wJ,Nat.zero_testBit,Bool.false_or,List.any_map];congr 1;funext x
 exact Bc x i
theorem A0 {l:List Int} (h:bO l=true):∀ x∈l,1≤x∧x≤5:=by
 intro x hx;obtain⟨i,hi,rfl⟩:=List.getElem_of_mem hx;have h2:dZ l l.length=true:=by simp only[bO,Bool.and_eq_true]at h;exact h.2
 have:=(jT l i).1 (lu h2 i hi);have e:l.getD i 0=l[i]:=by simp[hi]
 rw[e]at this;exact⟨this.1,this.2.1⟩
theorem CA {l:List Int} (h:bO l=true) (v:Int):fU (setOf l) v=dH l v:=by
 have hr:=A0 h;rw[fU,ve,dH,Bool.eq_iff_iff];simp only[Bool.and_eq_true,decide_eq_true_eq,List.any_eq_true,beq_iff_eq];constructor
 ·rintro⟨⟨h1,h5⟩,x,hx,e⟩;have:=hr x hx;exact⟨x,hx,by omega⟩
 ·rintro⟨x,hx,rfl⟩;have:=hr x hx;exact⟨⟨this.1,this.2⟩,x,hx,rfl⟩
end Go.Proofs.YtbiokpmdghmgcaaGreat
namespace Go.Proofs.YtbiokpmdghmgcaaGreat
set_option maxRecDepth 8000
set_option maxHeartbeats 40000000
open Go.RowKit Go.Deep
theorem zp:(Tryz.prog.info? 124).map (fun i=>(i.zero,i.size,i.bytes))=some (some (.agg #[.slice none 0 0,.string ByteArray.empty,.string ByteArray.empty,.string ByteArray.empty]),4,72):=by kernel_rfl
def td (who:ByteArray) (g:Gr):Bool:=g.too.toList==who.toList
def eg (gs:List Gr) (who:ByteArray) (k:Nat):List Rul:=((gs.take k).filter (td who)).map Gr.rule
def ja (gs:List Gr) (who:ByteArray):List Rul:=(gs.filter (td who)).map Gr.rule
def jJ (ts:List Tm) (d:g7) (r:Rul):Bool:=dH r.verbs d.verb&&given ts r d.kind d.team d.name
def iY (ts:List Tm) (gs:List Gr) (who:ByteArray) (d:g7):Bool:=(ja gs who).any (jJ ts d)
theorem nh (gs:List Gr) (who:ByteArray) (k:Nat):(eg gs who k).length≤gs.length:=by
 unfold eg;rw[List.length_map];exact Nat.le_trans (List.length_filter_le _ _) (by rw[List.length_take];omega)
theorem rj (gs:List Gr) (who:ByteArray) (k:Nat) (hk:k<gs.length):eg gs who (k+1)=eg gs who k++(if td who (gs.getD k Gr.none)=true then [(gs.getD k Gr.none).rule] else []):=by
 have e:gs.getD k Gr.none=gs[k]:=by simp[hk]
 unfold eg;rw[e,List.take_succ_eq_append_getElem hk,List.filter_append,List.map_append];congr 1;by_cases h:td who gs[k]=true
 ·simp[h]
 ·simp[h]
theorem mV (gs:List Gr) (who:ByteArray) (k:Nat) (hk:gs.length≤k):eg gs who k=ja gs who:=by
 unfold eg ja;rw[List.take_of_length_le hk]
def Al (w0:World) (xs:List Value) (o:Nat) (r:Rul):Prop:=
 ∃ b,xs[o]? =some (.slice (some ⟨b,0,none⟩) r.verbs.length r.verbs.length)∧xs[o+1]? =some (.string r.kind)∧xs[o+2]? =some (.string r.team)∧xs[o+3]? =some (.string r.pre)∧cn w0 b r.verbs
def i3 (w0 w:World) (lo:Nat) (v:Value) (L:List Rul):Prop:=
 ∃ xs,w.ownsRow lo 124 4 v L.length xs∧∀ i,i<L.length→Al w0 xs (i*4) (L.getD i Rul.none)
theorem i3.start (w0 w:World) (lo:Nat) (hl:lo≤w.heap.size):i3 w0 (w.alloc (.cells #[] 124)) lo (.slice (some ⟨w.heap.size,0,none⟩) 0 0) []:=
 ⟨[],World.ownsRow_made w #[] 0 hl (by decide) (by simp),fun i hi=>absurd hi (Nat.not_lt_zero i)⟩
theorem Al.snoc {w0:World} {xs:List Value} {o:Nat} {r:Rul} (h:Al w0 xs o r) (ys:List Value):Al w0 (xs++ys) o r:=by
 obtain⟨b,h0,h1,h2,h3,h4⟩:=h;have q:∀ {j:Nat} {u:Value},xs[j]? =some u→(xs++ys)[j]? =some u:=fun {j u} hj=>by
  rw[List.getElem?_append_left (List.getElem?_eq_some_iff.1 hj).1];exact hj
 exact⟨b,q h0,q h1,q h2,q h3,h4⟩
theorem zH {w0 w w':World} {lo:Nat} {v v':Value} {L:List Rul} {r:Rul} {xs:List Value} (h:w.ownsRow lo 124 4 v L.length xs) (hx:∀ i,i<L.length→Al w0 xs (i*4) (L.getD i Rul.none)) {b:Nat} (hn:cn w0 b r.verbs)
  (ho:w'.ownsRow lo 124 4 v' (L.length+1) (xs++[.slice (some ⟨b,0,none⟩) r.verbs.length r.verbs.length,.string r.kind,.string r.team,.string r.pre])):i3 w0 w' lo v' (L++[r]):=by
 have hl:xs.length=L.length*4:=h.1;refine⟨_,by rw[List.length_append];exact ho,fun i hi=> ?_⟩;rw[List.length_append,List.length_singleton]at hi;by_cases hik:i<L.length
 ·have e:(L++[r]).getD i Rul.none=L.getD i Rul.none:=by simp[hik,List.getElem?_append_left hik]
  rw[e];exact(hx i hik).snoc _
 ·obtain rfl:i=L.length:=by omega
  have e:(L++[r]).getD L.length Rul.none=r:=by simp
  rw[e];have q:∀ j,(xs++[.slice (some ⟨b,0,none⟩) r.verbs.length r.verbs.length,.string r.kind,.string r.team,.string r.pre])[L.length*4+j]? =[Value.slice (some ⟨b,0,none⟩) r.verbs.length r.verbs.length,.string r.kind,.string r.team,.string r.pre][j]? :=fun j=>by
   rw[List.getElem?_append_right (by omega)];congr 1;omega
  exact⟨b,q 0,q 1,q 2,q 3,hn⟩
structure s6 (w:World) (g o:Nat) (r:Rul) (b:Nat):Prop where
 c0:w.cell? ⟨g,o,none⟩=some (.slice (some ⟨b,0,none⟩) r.verbs.length r.verbs.length)
 c1:w.cell? ⟨g,o+1,none⟩=some (.string r.kind)
 c2:w.cell? ⟨g,o+2,none⟩=some (.string r.team)
 c3:w.cell? ⟨g,o+3,none⟩=some (.string r.pre)
 verbs:cn w b r.verbs
theorem s6.later {w w':World} {g o:Nat} {r:Rul} {b:Nat} (h:s6 w g o r b) (hb:Bel w w') (av:g<w.heap.size):s6 w' g o r b:=by
 have q:∀ j,w'.cell? ⟨g,j,none⟩=w.cell? ⟨g,j,none⟩:=fun j=>hb.cell (p:=⟨g,j,none⟩) av;exact⟨(q _).trans h.c0,(q _).trans h.c1,(q _).trans h.c2,(q _).trans h.c3,h.verbs.later hb⟩
def Au (w:World) (v:Value) (L:List Rul):Prop:=
 (L=[]∧∃ a c,v=.slice a 0 c)∨∃ g c,v=.slice (some ⟨g,0,none⟩) L.length c∧g<w.heap.size∧∀ i,i<L.length→∃ b,s6 w g (i*4) (L.getD i Rul.none) b
theorem i3.at_ {w0 w:World} {lo:Nat} {v:Value} {L:List Rul} (h:i3 w0 w lo v L) (hb:Bel w0 w):Au w v L:=by
 obtain⟨xs,h1,h2⟩:=h;have bP:∀ g,v.ownBlock=some g→∀ j u,xs[j]? =some u→w.cell? ((⟨g,0,none⟩:Addr).add j)=some u:=fun g hg=>World.ownsRow.cells h1 hg;rcases h1.2 with⟨rfl,hn⟩|⟨g,cap,cur,rfl,_,hg,_⟩
 ·exact Or.inl ⟨List.length_eq_zero_iff.1 hn,_,_,rfl⟩
 ·refine Or.inr ⟨g,cap,rfl,(Array.getElem?_eq_some_iff.1 hg).1,fun i hi=> ?_⟩;obtain⟨b,q0,q1,q2,q3,q4⟩:=h2 i hi;have q:∀ j u,xs[j]? =some u→w.cell? ⟨g,j,none⟩=some u:=by
   intro j u hu;have:=bP g rfl j u hu;rw[Addr.add_lit,Nat.zero_add]at this;exact this
  exact⟨b,q _ _ q0,q _ _ q1,q _ _ q2,q _ _ q3,q4.later hb⟩
theorem Ap (K:Bk) (e0 e1 e2 e3:Nat) (who:ByteArray) (w:World) (h:fG w e0 e1 e2 e3 K):
  Calls Tryz.prog 105 #[.agg #[.int .i64 K.now,.int .i64 K.tick,.int .i64 K.given,.slice (some ⟨e0,0,none⟩) K.objects.length K.objects.length,.slice (some ⟨e1,0,none⟩) K.grants.length K.grants.length,.slice (some ⟨e2,0,none⟩) K.ledgers.length K.ledgers.length,.slice (some ⟨e3,0,none⟩) K.purses.length K.purses.length],.string who] w fun e w'=>
   (∃ a n c,e=.returned (.slice a n c)∧Au w' (.slice a n c) (ja K.grants who))∧Bel w w':=by
 have hl:=h.g.len;have HA:=hid h;obtain⟨i0,hi,mR,jr,gX⟩:=info_parts zp;clear h;obtain⟨wa,ch⟩:∃ wa,wa=w.alloc (.cells #[.int .i64 K.now,.int .i64 K.tick,.int .i64 K.given,.slice (some ⟨e0,0,none⟩) K.objects.length K.objects.length,.slice (some ⟨e1,0,none⟩) K.grants.length K.grants.length,.slice (some ⟨e2,0,none⟩) K.ledgers.length K.ledgers.length,.slice (some ⟨e3,0,none⟩) K.purses.length K.purses.length] 47):=⟨_,rfl⟩
 have cz:Hid (Bel w wa):=by show Below _ _ _;rw[ch];exact ab br _
 have HSa:Hid (wa.heap.size=w.heap.size+1):=by show _=_;rw[ch];simp
 have eZ:Hid (bd wa w.heap.size (.int .i64 K.now) (.int .i64 K.tick) (.int .i64 K.given) (.slice (some ⟨e0,0,none⟩) K.objects.length K.objects.length) (.slice (some ⟨e1,0,none⟩) K.grants.length K.grants.length) (.slice (some ⟨e2,0,none⟩) K.ledgers.length K.ledgers.length) (.slice (some ⟨e3,0,none⟩) K.purses.length K.purses.length)):=by show bd _ _ _ _ _ _ _ _ _;rw[ch];exact bd.bp w _ _ _ _ _ _ _ _ _ rfl
 go_enter Tryz.func105,Tryz.ntmps105
 go_upto_region 1 with fail
 rw[← ch];clear ch;go_wp2;go_loopw [5,6] (fun v i wr=>∃ (k:Nat) (a:Option Addr) (c:Nat),k≤K.grants.length∧i=.int .i64 k∧v=.slice a (eg K.grants who k).length c∧i3 w wr wa.heap.size v (eg K.grants who k)∧Bel wa wr) (fun _ i _=>K.grants.length - (intOf i).toNat)
 case atStart=>exact⟨0,some ⟨wa.heap.size,0,none⟩,0,nz,rfl,rfl,i3.start w wa _ nr,ab br _⟩
 case round=>
  obtain⟨k,a,c,hk,rfl,rfl,hO,hW⟩:=hrel;have HO:=hid hO;have HW:=hid hW;obtain⟨yz,y0,y1,y2,y3,y4,y5,y6⟩:=eZ.out.later hW;clear hO hW y0 y1 y2 y3 y5 y6;by_cases av:k<K.grants.length
  ·obtain⟨g,hg⟩:∃ g,g=K.grants.getD k Gr.none:=⟨_,rfl⟩
   have bA:=HA.out.g.at_ k av;have JU:=(HA.out.g.later (aa cz.out HW.out)).at_ k av;have hB:=(HA.out.g.later (aa cz.out HW.out)).lt;rw[← hg]at bA JU;obtain⟨b,_,z0,z1,z2,z3,z4,z5,z6,hv,_⟩:=bA;have q:∀ j,wr.cell? ⟨e1,j,none⟩=w.cell? ⟨e1,j,none⟩:=fun j=>(aa cz.out HW.out).cell (p:=⟨e1,j,none⟩) HA.out.g.lt;have c1:=(q _).trans z1;have c3:=(q _).trans z3;have c4:=(q _).trans z4;have c5:=(q _).trans z5;have c6:=(q _).trans z6;have HV:=hid hv;have HS:Hid (eg K.grants who (k+1)=eg K.grants who k++(if td who g=true then [g.rule] else [])):=by have:=rj K.grants who k av;rw[← hg]at this;exact this
   clear hg JU z0 z1 z2 z3 z4 z5 z6 hv q;cases heq:(g.too.toList==who.toList)
   ·have rA:Hid (eg K.grants who (k+1)=eg K.grants who k):=by show _=_;have:=HS.out;rw[show td who g=false from heq]at this;simpa using this
    clear HS;go_wp2;go_roundw
    case rel=>exact⟨k+1,a,c,by omega,by go_num,by rw[rA.out],by rw[rA.out];exact HO.out,HW.out⟩
    case measure=>simp[intOf];omega
   ·have rA:Hid (eg K.grants who (k+1)=eg K.grants who k++[g.rule]):=by show _=_;have:=HS.out;rw[show td who g=true from heq]at this;simpa using this
    clear HS;obtain⟨xs,yQ,yJ⟩:=HO.out;have hle:=nh K.grants who k;obtain⟨L,hL⟩:∃ L,L=eg K.grants who k:=⟨_,rfl⟩
    rw[← hL]at yQ yJ rA HO hle ⊢;have ze:=hid hL;have HX:=hid (And.intro yQ yJ);have Nj:=HW.out.size;clear yQ yJ hL;go_wp2_with (at_builtin;refine wpList_append_own _ rfl _ _ 165 rfl wa.heap.size 124 i0 (.agg #[.slice none 0 0,.string ByteArray.empty,.string ByteArray.empty,.string ByteArray.empty]) 4 72 Tryz.underlying165 hi mR jr gX rfl (by decide) (.slice a L.length c) L.length xs rfl ?c0 ⟨wr.heap.size,0,none⟩ 1 1 [.slice (some ⟨b,0,none⟩) g.rule.verbs.length g.rule.verbs.length,.string g.rule.kind,.string g.rule.team,.string g.rule.pre] rfl ?c1 ?c2 ?c3 ?c4 ?c5 ?c6 ?_)
    case c0=>exact bV HX.out.1 (ab br _)
    case c1=>rfl
    case c2=>
     intro j u hj;match j,hj with
     |0,hj=>simp at hj;subst hj;simp[Addr.add]
     |1,hj=>simp at hj;subst hj;simp[Addr.add]
     |2,hj=>simp at hj;subst hj;simp[Addr.add]
     |3,hj=>simp at hj;subst hj;simp[Addr.add]
     |k+4,hj=>simp at hj
    case c3=>intro u hu;simp at hu;rcases hu with rfl|rfl|rfl|rfl<;>rfl
    case c4=>unfold maxLen;omega
    case c5=>omega
    case c6=>simp;omega
    intro v' w3 cq ct _;obtain⟨a3,d3,pR⟩:=dS cq;subst pR;have BA:Bel wr (wr.alloc (.cells #[.slice (some ⟨b,0,none⟩) g.rule.verbs.length g.rule.verbs.length,.string g.rule.kind,.string g.rule.team,.string g.rule.pre] 124)):=ab br _;have HN:Hid (i3 w w3 wa.heap.size (.slice a3 (L.length+1) d3) (L++[g.rule])):=
     zH (bV HX.out.1 BA) HX.out.2 HV.out cq
    have fO:Hid (Bel wa w3):=by
     refine Below.grown (aa HW.out BA) ct (aa HW.out BA).size (fun q hq=> ?_);have:=(World.ownsRow.lt HX.out.1 q hq).1;simpa using this
    clear cq ct BA HX;go_wp2;go_roundw
    case rel=>exact⟨k+1,a3,d3,by omega,by go_num,by rw[rA.out,List.length_append];rfl,by rw[rA.out];exact HN.out,fO.out⟩
    case measure=>simp[intOf];omega
  ·have HE:Hid (eg K.grants who k=ja K.grants who):=mV _ _ _ (by omega);go_wp2;go_ret;refine⟨⟨a,_,c,rfl, ?_⟩,aa cz.out HW.out⟩;rw[← HE.out];exact HO.out.at_ (aa cz.out HW.out)
theorem rO {α:Type} (p:α→Bool) (l:List α) (d:α) (k:Nat) (h:k<l.length) (hq:(l.take k).any p=false) (hn:p (l.getD k d)=false):(l.take (k+1)).any p=false:=by
 have e:l.getD k d=l[k]:=by simp[h]
 rw[e]at hn;rw[List.take_succ_eq_append_getElem h,List.any_append,hq];simp[hn]
theorem vX {α:Type} (p:α→Bool) (l:List α) (d:α) (k:Nat) (h:k<l.length) (hn:p (l.getD k d)=true):l.any p=true:=by
 have e:l.getD k d=l[k]:=by simp[h]
 rw[e]at hn;exact List.any_eq_true.2 ⟨_,List.getElem_mem h,hn⟩
theorem wK {α:Type} (p:α→Bool) (l:List α) (k:Nat) (h:l.length≤k) (hq:(l.take k).any p=false):l.any p=false:=by
 rwa [List.take_of_length_le h]at hq
theorem FT (L:Lw) (a0 a1 a2:Nat) (K:Bk) (e0 e1 e2 e3:Nat) (who:ByteArray) (d:g7) (w:World) (hL:fT w a0 a1 a2 L) (h:fG w e0 e1 e2 e3 K):
  Calls Tryz.prog 50 #[.agg #[.slice (some ⟨a0,0,none⟩) L.shapes.length L.shapes.length,.slice (some ⟨a1,0,none⟩) L.mends.length L.mends.length,.slice (some ⟨a2,0,none⟩) L.teams.length L.teams.length],.agg #[.int .i64 K.now,.int .i64 K.tick,.int .i64 K.given,.slice (some ⟨e0,0,none⟩) K.objects.length K.objects.length,.slice (some ⟨e1,0,none⟩) K.grants.length K.grants.length,.slice (some ⟨e2,0,none⟩) K.ledgers.length K.ledgers.length,.slice (some ⟨e3,0,none⟩) K.purses.length K.purses.length],.string who,.agg #[.int .i64 d.verb,.string d.kind,.string d.team,.string d.name]] w fun e w'=>e=.returned (.bool (iY L.teams K.grants who d))∧Bel w w':=by
 have HA:=hid (And.intro hL h);have Ch:(ja K.grants who).length≤1048576:=by
  have:=nh K.grants who K.grants.length;rw[mV _ _ _ nr]at this;exact Nat.le_trans this h.g.len
 obtain⟨rs,KZ⟩:∃ rs,rs=ja K.grants who:=⟨_,rfl⟩
 have HRS:=hid KZ;rw[← KZ]at Ch;obtain⟨R,hR⟩:∃ R,R=rs.any (jJ L.teams d):=⟨_,rfl⟩
 have HR:=hid hR;rw[show iY L.teams K.grants who d=R by rw[hR,KZ];rfl];clear hL h hR KZ;obtain⟨wa,ch⟩:∃ wa,wa=((w.alloc (.cells #[.slice (some ⟨a0,0,none⟩) L.shapes.length L.shapes.length,.slice (some ⟨a1,0,none⟩) L.mends.length L.mends.length,.slice (some ⟨a2,0,none⟩) L.teams.length L.teams.length] 40)).alloc (.cells #[.int .i64 K.now,.int .i64 K.tick,.int .i64 K.given,.slice (some ⟨e0,0,none⟩) K.objects.length K.objects.length,.slice (some ⟨e1,0,none⟩) K.grants.length K.grants.length,.slice (some ⟨e2,0,none⟩) K.ledgers.length K.ledgers.length,.slice (some ⟨e3,0,none⟩) K.purses.length K.purses.length] 47)).alloc (.cells #[.int .i64 d.verb,.string d.kind,.string d.team,.string d.name] 56):=⟨_,rfl⟩
 have cz:Hid (Bel w wa):=by show Below _ _ _;rw[ch];exact ab (ab (ab br _) _) _
 have eZ:Hid ((bC wa w.heap.size (.slice (some ⟨a0,0,none⟩) L.shapes.length L.shapes.length) (.slice (some ⟨a1,0,none⟩) L.mends.length L.mends.length) (.slice (some ⟨a2,0,none⟩) L.teams.length L.teams.length))∧(bd wa (w.heap.size+1) (.int .i64 K.now) (.int .i64 K.tick) (.int .i64 K.given) (.slice (some ⟨e0,0,none⟩) K.objects.length K.objects.length) (.slice (some ⟨e1,0,none⟩) K.grants.length K.grants.length) (.slice (some ⟨e2,0,none⟩) K.ledgers.length K.ledgers.length) (.slice (some ⟨e3,0,none⟩) K.purses.length K.purses.length))∧aM wa (w.heap.size+1+1) #[.int .i64 d.verb,.string d.kind,.string d.team,.string d.name]):=by show _∧_∧_;rw[ch];exact⟨((bC.bp _ _ _ _ _ _ rfl).cy _).cy _,(bd.bp _ _ _ _ _ _ _ _ _ _ (by simp)).cy _,aM.bp _ _ _ _ (by simp)⟩
 go_enter Tryz.func50,Tryz.ntmps50
 go_upto_region 1 with fail
 rw[← ch];clear ch;obtain⟨xz,x0,x1,x2⟩:=eZ.out.1;obtain⟨yz,y0,y1,y2,y3,y4,y5,y6⟩:=eZ.out.2.1;go_wp2_with fail
 refine(Ap K e0 e1 e2 e3 who wa (HA.out.2.later cz.out)).mono ?_;rintro e wb ⟨⟨va,vn,vc,rfl,dO⟩,hb⟩;rw[← HRS.out]at dO;have ik:Hid ((bC wb w.heap.size (.slice (some ⟨a0,0,none⟩) L.shapes.length L.shapes.length) (.slice (some ⟨a1,0,none⟩) L.mends.length L.mends.length) (.slice (some ⟨a2,0,none⟩) L.teams.length L.teams.length))∧aM wb (w.heap.size+1+1) #[.int .i64 d.verb,.string d.kind,.string d.team,.string d.name]):=⟨eZ.out.1.later hb,eZ.out.2.2.later hb⟩
 have gv:Hid (Bel w wb):=aa cz.out hb;have hvn:vn=rs.length:=by
  rcases dO with⟨e1,a,c,e2⟩|⟨g,c,e2,_⟩
  ·rw[e1];injection e2
  ·injection e2
 subst hvn;have HAT:=hid dO;clear dO hb eZ cz xz x0 x1 x2 yz y0 y1 y2 y3 y4 y5 y6;go_wp2;go_loopw [10] (fun i wr=>∃ k:Nat,k≤rs.length∧i=.int .i64 k∧(rs.take k).any (jJ L.teams d)=false∧Bel wb wr) (fun i _=>rs.length - (intOf i).toNat)
 case atStart=>exact⟨0,nz,rfl,rfl,br⟩
 case round=>
  obtain⟨k,hk,rfl,hq,hW⟩:=hrel;have HQ:=hid hq;have HW:=hid hW;clear hq;by_cases av:k<rs.length
  ·obtain⟨r,hr⟩:∃ r,r=rs.getD k Rul.none:=⟨_,rfl⟩
   have HG:=hid hr;obtain⟨g,hva,hg,b,hi⟩:∃ g,va=some ⟨g,0,none⟩∧g<wr.heap.size∧∃ b,s6 wr g (k*4) r b:=by
    rcases HAT.out with⟨e1,_⟩|⟨g,c,e2,hg,hx⟩
    ·rw[e1]at av;exact absurd av (Nat.not_lt_zero _)
    ·obtain⟨b,hb⟩:=hx k av;injection e2 with e3
     exact⟨g,e3,lo hg hW.size,b,by rw[hr];exact hb.later hW hg⟩
   subst hva;obtain⟨c0,c1,c2,c3,hv⟩:=hi;obtain⟨xz,x0,x1,x2⟩:=ik.out.1.later hW;obtain⟨vz,vat⟩:=ik.out.2.later hW;have v0:wr.cell? ⟨w.heap.size+1+1,0,none⟩=some (.int .i64 d.verb):=vat 0;have v1:wr.cell? ⟨w.heap.size+1+1,1,none⟩=some (.string d.kind):=vat 1;have v2:wr.cell? ⟨w.heap.size+1+1,2,none⟩=some (.string d.team):=vat 2;have v3:wr.cell? ⟨w.heap.size+1+1,3,none⟩=some (.string d.name):=vat 3;have HX:Hid (∀ W,Bel wr W→Calls Tryz.prog 106 #[.slice (some ⟨a2,0,none⟩) L.teams.length L.teams.length,.agg #[.slice (some ⟨b,0,none⟩) r.verbs.length r.verbs.length,.string r.kind,.string r.team,.string r.pre],.agg #[.int .i64 d.verb,.string d.kind,.string d.team,.string d.name]] W fun e w'=>e=.returned (.bool (jJ L.teams d r))∧Bel W w'):=fun W rr=>AF a2 b L.teams r d W (HA.out.1.later (aa gv.out (aa HW.out rr))).t (hv.later rr);clear vat hv hr hW;go_wp2_with fail
   cases hn:jJ L.teams d r
   ·have HE:Hid ((rs.take (k+1)).any (jJ L.teams d)=false):=rO _ rs Rul.none k av HQ.out (by rw[← HG.out];exact hn);rw[hn]at HX;go_region_with (go_at_call 106;refine(HX.out _ ?_).mono ?_;(repeat(first|exact br|refine Below.drew ?_));rintro e w2 ⟨rfl,aA⟩;have Ia:Bel wb w2:=aa HW.out (aa (by repeat(first|exact br|refine Below.drew ?_)) aA);clear aA)
    all_goals
     go_wp2;go_roundw
     case rel=>
      refine⟨k+1,by omega,by go_num,HE.out, ?_⟩;repeat(first|exact Ia|refine Below.drew ?_)
     case measure=>simp[intOf];omega
   ·have HE:Hid (R=true):=by show R=true;rw[HR.out];exact vX _ rs Rul.none k av (by rw[← HG.out];exact hn)
    rw[hn]at HX;go_region_with (go_at_call 106;refine(HX.out _ ?_).mono ?_;(repeat(first|exact br|refine Below.drew ?_));rintro e w2 ⟨rfl,aA⟩;have Ia:Bel wb w2:=aa HW.out (aa (by repeat(first|exact br|refine Below.drew ?_)) aA);clear aA)
    all_goals
     go_wp2;go_ret;refine⟨Pl.ae HE.out.symm,aa gv.out ?_⟩;repeat(first|exact Ia|refine Below.drew ?_)
  ·have HE:Hid (R=false):=by show _=_;rw[HR.out];exact wK _ rs k (by omega) HQ.out
   clear hW;go_wp2;go_ret;exact⟨Pl.ae HE.out.symm,aa gv.out HW.out⟩
set_option maxRecDepth 8000
set_option maxHeartbeats 40000000
open Go.RowKit Go.Deep
def qR (ts:List Tm) (who:ByteArray) (d:g7) (g:Gr):Bool:=td who g&&jJ ts d g.rule
theorem xM (ts:List Tm) (gs:List Gr) (who:ByteArray) (d:g7):iY ts gs who d=gs.any (qR ts who d):=by
 unfold iY ja qR;rw[List.any_map,List.any_filter];rfl
theorem Lr (pw pl pa b a0 a1 a2:Nat) (L:Lw) (g:Gr) (who:ByteArray) (d:g7) (w:World) (hw:aM w pw #[.string who]) (hl:bC w pl (.slice (some ⟨a0,0,none⟩) L.shapes.length L.shapes.length) (.slice (some ⟨a1,0,none⟩) L.mends.length L.mends.length) (.slice (some ⟨a2,0,none⟩) L.teams.length L.teams.length)) (ha:aM w pa #[.int .i64 d.verb,.string d.kind,.string d.team,.string d.name]) (hT:fT w a0 a1 a2 L) (hv:cn w b g.rule.verbs) (fN:bO g.rule.verbs=true):
  Calls Tryz.prog 108 #[.agg #[.int .i64 g.number,.string g.too,.string g.by_,.slice (some ⟨b,0,none⟩) g.rule.verbs.length g.rule.verbs.length,.string g.rule.kind,.string g.rule.team,.string g.rule.pre],.pointer (some ⟨pw,0,none⟩),.pointer (some ⟨pl,0,none⟩),.pointer (some ⟨pa,0,none⟩)] w fun e w'=>e=.returned (.bool (qR L.teams who d g))∧Bel w w':=by
 obtain⟨wa,ch⟩:∃ wa,wa=w.alloc (.cells #[.int .i64 g.number,.string g.too,.string g.by_,.slice (some ⟨b,0,none⟩) g.rule.verbs.length g.rule.verbs.length,.string g.rule.kind,.string g.rule.team,.string g.rule.pre] 126):=⟨_,rfl⟩
 have cz:Hid (Bel w wa):=by show Below _ _ _;rw[ch];exact ab br _
 have HC:Hid (aM wa w.heap.size #[.int .i64 g.number,.string g.too,.string g.by_,.slice (some ⟨b,0,none⟩) g.rule.verbs.length g.rule.verbs.length,.string g.rule.kind,.string g.rule.team,.string g.rule.pre]∧aM wa pw #[.string who]∧(bC wa pl (.slice (some ⟨a0,0,none⟩) L.shapes.length L.shapes.length) (.slice (some ⟨a1,0,none⟩) L.mends.length L.mends.length) (.slice (some ⟨a2,0,none⟩) L.teams.length L.teams.length))∧aM wa pa #[.int .i64 d.verb,.string d.kind,.string d.team,.string d.name]):=by
  show _∧_;have hb:=cz.out;exact⟨by rw[ch];exact aM.bp _ _ _ _ rfl,hw.later hb,hl.later hb,ha.later hb⟩
 have M9:=hid (And.intro (hT.later cz.out) (hv.later cz.out));obtain⟨R,hR⟩:∃ R,R=qR L.teams who d g:=⟨_,rfl⟩
 have HR:Hid (R=((g.too.toList==who.toList)&&(dH g.rule.verbs d.verb&&given L.teams g.rule d.kind d.team d.name))):=hR;rw[← hR];clear hw hl ha hT hv hR;go_enter Tryz.func108,Tryz.ntmps108
 go_upto_region 1 with fail
 rw[← ch];clear ch;obtain⟨gz,gat⟩:=HC.out.1;obtain⟨wz,wat⟩:=HC.out.2.1;obtain⟨lz,l0,l1,l2⟩:=HC.out.2.2.1;obtain⟨az,aat⟩:=HC.out.2.2.2;have tE:=dR wa;have Zg:∀ px:Pst wa,w.heap.size<px.W.heap.size:=fun px=>px.size gz;have Zw:∀ px:Pst wa,pw<px.W.heap.size:=fun px=>px.size wz;have Zl:∀ px:Pst wa,pl<px.W.heap.size:=fun px=>px.size lz;have Za:∀ px:Pst wa,pa<px.W.heap.size:=fun px=>px.size az;have W0:∀ px:Pst wa,px.W.cell? ⟨pw,0,none⟩=some (.string who):=fun px=>px.cell (wat 0) wz;have G1:∀ px:Pst wa,px.W.cell? ⟨w.heap.size,1,none⟩=some (.string g.too):=fun px=>px.cell (gat 1) gz;have G3:∀ px:Pst wa,px.W.cell? ⟨w.heap.size,3,none⟩=some (.slice (some ⟨b,0,none⟩) g.rule.verbs.length g.rule.verbs.length):=fun px=>px.cell (gat 3) gz;have G4:∀ px:Pst wa,px.W.cell? ⟨w.heap.size,4,none⟩=some (.string g.rule.kind):=fun px=>px.cell (gat 4) gz;have G5:∀ px:Pst wa,px.W.cell? ⟨w.heap.size,5,none⟩=some (.string g.rule.team):=fun px=>px.cell (gat 5) gz;have G6:∀ px:Pst wa,px.W.cell? ⟨w.heap.size,6,none⟩=some (.string g.rule.pre):=fun px=>px.cell (gat 6) gz;have L2:∀ px:Pst wa,px.W.cell? ⟨pl,2,none⟩=some (.slice (some ⟨a2,0,none⟩) L.teams.length L.teams.length):=fun px=>px.cell l2 lz;have V0:∀ px:Pst wa,px.W.cell? ⟨pa,0,none⟩=some (.int .i64 d.verb):=fun px=>px.cell (aat 0) az;have V1:∀ px:Pst wa,px.W.cell? ⟨pa,1,none⟩=some (.string d.kind):=fun px=>px.cell (aat 1) az;have V2:∀ px:Pst wa,px.W.cell? ⟨pa,2,none⟩=some (.string d.team):=fun px=>px.cell (aat 2) az;have V3:∀ px:Pst wa,px.W.cell? ⟨pa,3,none⟩=some (.string d.name):=fun px=>px.cell (aat 3) az;clear gat wat aat l0 l1 l2;obtain⟨Q,hQ⟩:∃ Q:Nat,Q=(if given L.teams g.rule d.kind d.team d.name=true then g8 g.rule.verbs else 0):=⟨_,rfl⟩
 have HQ:Hid (Q<64):=by
  show Q<64;rw[hQ];split
  ·exact sQ _
  ·omega
 have HXr:Hid (∀ W,Bel wa W→Calls Tryz.prog 109 #[.slice (some ⟨a2,0,none⟩) L.teams.length L.teams.length,.agg #[.slice (some ⟨b,0,none⟩) g.rule.verbs.length g.rule.verbs.length,.string g.rule.kind,.string g.rule.team,.string g.rule.pre]] W fun e w'=>e=.returned (.agg #[.slice (some ⟨a2,0,none⟩) L.teams.length L.teams.length,.slice (some ⟨b,0,none⟩) g.rule.verbs.length g.rule.verbs.length,.string g.rule.kind,.string g.rule.team,.string g.rule.pre,.int .u8 (g8 g.rule.verbs:Nat)])∧Bel wa w'):=by
  intro W hW;refine(DC a2 b L.teams g.rule W (M9.out.2.later hW)).mono ?_;rintro e w' ⟨rfl,hb⟩;exact⟨rfl,aa hW hb⟩
 have B0:Hid (∀ W,Bel wa W→Calls Tryz.prog 110 #[.agg #[.slice (some ⟨a2,0,none⟩) L.teams.length L.teams.length,.slice (some ⟨b,0,none⟩) g.rule.verbs.length g.rule.verbs.length,.string g.rule.kind,.string g.rule.team,.string g.rule.pre,.int .u8 (g8 g.rule.verbs:Nat)],.agg #[.int .i64 d.verb,.string d.kind,.string d.team,.string d.name]] W fun e w'=>e=.returned (.int .u8 (Q:Nat))∧Bel wa w'):=by
  intro W hW;refine(yu a2 b (g8 g.rule.verbs) L.teams g.rule d W (M9.out.1.later hW).t).mono ?_;rintro e w' ⟨rfl,hb⟩;refine⟨?_,aa hW hb⟩;rw[hQ];split<;>rfl
 have KK:Hid (∀ W,Bel wa W→Calls Tryz.prog 111 #[.int .u8 (Q:Nat),.int .i64 d.verb] W fun e w'=>e=.returned (.bool (fU Q d.verb))∧Bel wa w'):=by
  intro W hW;refine(CO Q d.verb W HQ.out).mono ?_;rintro e w' ⟨rfl,rfl⟩;exact⟨rfl,hW⟩
 have HE:Hid (R=((g.too.toList==who.toList)&&fU Q d.verb)):=by
  show R=_;rw[HR.out,hQ];cases given L.teams g.rule d.kind d.team d.name
  ·simp[fU]
  ·simp only[g8,fN,if_true,CA fN,Bool.and_true]
 clear hQ HC M9 HR;cases heq:(g.too.toList==who.toList)
 all_goals
  have vL:=hid heq;go_wp2_with fail
  refine au wa br (by kernel_rfl) (by kernel_rfl) ?_;repeat(first
   |go_big_quiet_skip
   |(go_big_quiet_want;go_big_quiet_op;first|go_big_quiet_on|(apply Exists.intro;refine⟨fun px=> ?_, ?_⟩;(focus(first
     |(go_at_call 109;((with_reducible refine(HXr.out _ px.ok).mono ?_));rintro e w' ⟨he,hb⟩;exact⟨he,⟨w',hb⟩,rfl⟩)
     |(go_at_call 110;((with_reducible refine(B0.out _ px.ok).mono ?_));rintro e w' ⟨he,hb⟩;exact⟨he,⟨w',hb⟩,rfl⟩)
     |(go_at_call 111;((with_reducible refine(KK.out _ px.ok).mono ?_));rintro e w' ⟨he,hb⟩;exact⟨he,⟨w',hb⟩,rfl⟩)));go_big_quiet_on)))
  refine wpQuiet_nil ?_;intro _ dN;obtain⟨pw6,aX⟩:=dN;subst aX;go_wp2;go_ret;exact⟨Pl.ae (by rw[HE.out,vL.out];rfl),aa cz.out pw6.ok⟩
theorem FH (pw pl pa B a0 a1 a2:Nat) (L:Lw) (gs:List Gr) (who:ByteArray) (d:g7) (w:World) (hw:aM w pw #[.string who]) (hl:bC w pl (.slice (some ⟨a0,0,none⟩) L.shapes.length L.shapes.length) (.slice (some ⟨a1,0,none⟩) L.mends.length L.mends.length) (.slice (some ⟨a2,0,none⟩) L.teams.length L.teams.length)) (ha:aM w pa #[.int .i64 d.verb,.string d.kind,.string d.team,.string d.name]) (hT:fT w a0 a1 a2 L) (hg:gy w B gs) (fN:∀ g∈gs,bO g.rule.verbs=true):
  Calls Tryz.prog 156 #[.slice (some ⟨B,0,none⟩) gs.length gs.length,.func (.func 108) #[] #[.pointer (some ⟨pw,0,none⟩),.pointer (some ⟨pl,0,none⟩),.pointer (some ⟨pa,0,none⟩)]] w fun e w'=>(∃ r:Int,e=.returned (.int .i64 r)∧decide (0≤r)=iY L.teams gs who d)∧Bel w w':=by
 have HC:=hid (And.intro hg (And.intro hw (And.intro hl (And.intro ha (And.intro hT fN)))));have M1:=hg.len;obtain⟨R,hR⟩:∃ R,R=iY L.teams gs who d:=⟨_,rfl⟩
 have HR:Hid (R=gs.any (qR L.teams who d)):=hR.trans (xM _ _ _ _);rw[← hR];clear hR hg hw hl ha hT fN;go_enter Tryz.func156,Tryz.ntmps156
 go_wp2;go_loopw [8] (fun i wr=>∃ k:Nat,k≤gs.length∧i=.int .i64 k∧(gs.take k).any (qR L.teams who d)=false∧Bel w wr) (fun i _=>gs.length - (intOf i).toNat)
 case atStart=>exact⟨0,nz,rfl,rfl,br⟩
 case round=>
  obtain⟨k,hk,rfl,hq,hW⟩:=hrel;have HQ:=hid hq;clear hq;by_cases av:k<gs.length
  ·obtain⟨g,hg⟩:∃ g,g=gs.getD k Gr.none:=⟨_,rfl⟩
   have hc:=(HC.out.1.later hW).at_ k av;have zf:=lo HC.out.1.lt hW.size;rw[← hg]at hc;obtain⟨b,_,c0,c1,c2,c3,c4,c5,c6,hv,_⟩:=hc;have J7:g∈gs:=by rw[hg];simp[av]
   have HX:Hid (Calls Tryz.prog 108 #[.agg #[.int .i64 g.number,.string g.too,.string g.by_,.slice (some ⟨b,0,none⟩) g.rule.verbs.length g.rule.verbs.length,.string g.rule.kind,.string g.rule.team,.string g.rule.pre],.pointer (some ⟨pw,0,none⟩),.pointer (some ⟨pl,0,none⟩),.pointer (some ⟨pa,0,none⟩)] wr fun e w'=>e=.returned (.bool (qR L.teams who d g))∧Bel wr w'):=
    Lr pw pl pa b a0 a1 a2 L g who d wr (HC.out.2.1.later hW) (HC.out.2.2.1.later hW) (HC.out.2.2.2.1.later hW) (HC.out.2.2.2.2.1.later hW) hv (HC.out.2.2.2.2.2 g J7)
   have HG:=hid hg;clear hg J7 hv;go_wp2_with fail
   refine HX.out.mono ?_;rintro e w2 ⟨rfl,aA⟩;have bE:=aa hW aA;clear aA c0 c1 c2 c3 c4 c5 c6 zf HX;cases hn:qR L.teams who d g
   ·have HE:Hid ((gs.take (k+1)).any (qR L.teams who d)=false):=rO _ gs Gr.none k av HQ.out (by rw[← HG.out];exact hn);go_wp2;go_roundw
    case rel=>exact⟨k+1,by omega,by go_num,HE.out,bE⟩
    case measure=>simp[intOf];omega
   ·have HE:Hid (R=true):=by show R=true;rw[HR.out];exact vX _ gs Gr.none k av (by rw[← HG.out];exact hn)
    go_wp2;go_ret;exact⟨⟨_,rfl,by rw[HE.out];simp⟩,bE⟩
  ·have HE:Hid (R=false):=by show _=_;rw[HR.out];exact wK _ gs k (by omega) HQ.out
   go_wp2;go_ret;exact⟨⟨_,rfl,by rw[HE.out];simp⟩,hW⟩
theorem ye (pw pl pa B a0 a1 a2:Nat) (L:Lw) (gs:List Gr) (who:ByteArray) (d:g7) (w:World) (hw:aM w pw #[.string who]) (hl:bC w pl (.slice (some ⟨a0,0,none⟩) L.shapes.length L.shapes.length) (.slice (some ⟨a1,0,none⟩) L.mends.length L.mends.length) (.slice (some ⟨a2,0,none⟩) L.teams.length L.teams.length)) (ha:aM w pa #[.int .i64 d.verb,.string d.kind,.string d.team,.string d.name]) (hT:fT w a0 a1 a2 L) (hg:gy w B gs) (fN:∀ g∈gs,bO g.rule.verbs=true):
  Calls Tryz.prog 107 #[.slice (some ⟨B,0,none⟩) gs.length gs.length,.func (.func 108) #[] #[.pointer (some ⟨pw,0,none⟩),.pointer (some ⟨pl,0,none⟩),.pointer (some ⟨pa,0,none⟩)]] w fun e w'=>e=.returned (.bool (iY L.teams gs who d))∧Bel w w':=by
 have HX:=hid (FH pw pl pa B a0 a1 a2 L gs who d w hw hl ha hT hg fN);clear hg hw hl ha hT fN;go_enter Tryz.func107,Tryz.ntmps107
 go_wp2_with fail
 refine HX.out.mono ?_;rintro e w' ⟨⟨r,rfl,hr⟩,hb⟩;have HR:=hid hr;clear hr;go_wp2;go_ret;exact⟨Pl.ae HR.out,hb⟩
theorem Bx (L:Lw) (a0 a1 a2:Nat) (K:Bk) (e0 e1 e2 e3:Nat) (who:ByteArray) (d:g7) (w:World) (hL:fT w a0 a1 a2 L) (h:fG w e0 e1 e2 e3 K) (fN:∀ g∈K.grants,bO g.rule.verbs=true):
  Calls Tryz.prog 51 #[.agg #[.slice (some ⟨a0,0,none⟩) L.shapes.length L.shapes.length,.slice (some ⟨a1,0,none⟩) L.mends.length L.mends.length,.slice (some ⟨a2,0,none⟩) L.teams.length L.teams.length],.agg #[.int .i64 K.now,.int .i64 K.tick,.int .i64 K.given,.slice (some ⟨e0,0,none⟩) K.objects.length K.objects.length,.slice (some ⟨e1,0,none⟩) K.grants.length K.grants.length,.slice (some ⟨e2,0,none⟩) K.ledgers.length K.ledgers.length,.slice (some ⟨e3,0,none⟩) K.purses.length K.purses.length],.string who,.agg #[.int .i64 d.verb,.string d.kind,.string d.team,.string d.name]] w fun e w'=>e=.returned (.bool (iY L.teams K.grants who d))∧Bel w w':=by
 obtain⟨wa,ch⟩:∃ wa,wa=(((w.alloc (.cells #[.slice (some ⟨a0,0,none⟩) L.shapes.length L.shapes.length,.slice (some ⟨a1,0,none⟩) L.mends.length L.mends.length,.slice (some ⟨a2,0,none⟩) L.teams.length L.teams.length] 40)).alloc (.cells #[.int .i64 K.now,.int .i64 K.tick,.int .i64 K.given,.slice (some ⟨e0,0,none⟩) K.objects.length K.objects.length,.slice (some ⟨e1,0,none⟩) K.grants.length K.grants.length,.slice (some ⟨e2,0,none⟩) K.ledgers.length K.ledgers.length,.slice (some ⟨e3,0,none⟩) K.purses.length K.purses.length] 47)).alloc (.cells #[.string who] 9)).alloc (.cells #[.int .i64 d.verb,.string d.kind,.string d.team,.string d.name] 56):=⟨_,rfl⟩
 have cz:Hid (Bel w wa):=by show Below _ _ _;rw[ch];exact ab (ab (ab (ab br _) _) _) _
 have eZ:Hid ((bC wa w.heap.size (.slice (some ⟨a0,0,none⟩) L.shapes.length L.shapes.length) (.slice (some ⟨a1,0,none⟩) L.mends.length L.mends.length) (.slice (some ⟨a2,0,none⟩) L.teams.length L.teams.length))∧(bd wa (w.heap.size+1) (.int .i64 K.now) (.int .i64 K.tick) (.int .i64 K.given) (.slice (some ⟨e0,0,none⟩) K.objects.length K.objects.length) (.slice (some ⟨e1,0,none⟩) K.grants.length K.grants.length) (.slice (some ⟨e2,0,none⟩) K.ledgers.length K.ledgers.length) (.slice (some ⟨e3,0,none⟩) K.purses.length K.purses.length))∧aM wa (w.heap.size+1+1) #[.string who]∧aM wa (w.heap.size+1+1+1) #[.int .i64 d.verb,.string d.kind,.string d.team,.string d.name]):=by show _∧_∧_∧_;rw[ch];exact⟨(((bC.bp _ _ _ _ _ _ rfl).cy _).cy _).cy _,((bd.bp _ _ _ _ _ _ _ _ _ _ (by simp)).cy _).cy _,(aM.bp _ _ _ _ (by simp)).cy _,aM.bp _ _ _ _ (by simp)⟩
 have HX:Hid (Calls Tryz.prog 107 #[.slice (some ⟨e1,0,none⟩) K.grants.length K.grants.length,.func (.func 108) #[] #[.pointer (some ⟨w.heap.size+1+1,0,none⟩),.pointer (some ⟨w.heap.size,0,none⟩),.pointer (some ⟨w.heap.size+1+1+1,0,none⟩)]] wa fun e w'=>e=.returned (.bool (iY L.teams K.grants who d))∧Bel wa w'):=
  ye _ _ _ e1 a0 a1 a2 L K.grants who d wa eZ.out.2.2.1 eZ.out.1 eZ.out.2.2.2 (hL.later cz.out) (h.later cz.out).g fN
 clear hL h fN;go_enter Tryz.func51,Tryz.ntmps51
 go_upto_region 1 with fail
 rw[← ch];clear ch;obtain⟨yz,y0,y1,y2,y3,y4,y5,y6⟩:=eZ.out.2.1;clear y0 y1 y2 y3 y5 y6;go_wp2_with fail
 refine HX.out.mono ?_;rintro e w2 ⟨rfl,hb⟩;have HB:=hid (aa cz.out hb);clear hb HX;go_wp2;go_ret;exact⟨rfl,HB.out⟩
end Go.Proofs.YtbiokpmdghmgcaaGreat
