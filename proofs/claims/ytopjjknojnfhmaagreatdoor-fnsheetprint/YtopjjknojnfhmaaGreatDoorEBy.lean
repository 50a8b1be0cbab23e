import Derived.Deep.AppendLies
import Derived.Laws.AppendOwn
import Derived.BigFrame
import Derived.Deep.AppendSrc
import Derived.Lib.AppendZeros
import Derived.Laws.OwnMore
import Derived.Test.YtopjjknojnfhmaaGreatDoorProg
import Derived.RowKit
import Derived.WalkKit
import Derived.WalkSpells
import Derived.WalkLawsBesides
import Derived.Laws.IdiomStrings
import Derived.Deep.RegionHeldLaw
import Derived.Test.YtopjjknojnfhmaaGreatDoorUB
import Derived.Test.YtopjjknojnfhmaaGreatDoorEPl
import Derived.Test.YtopjjknojnfhmaaGreatDoorRgF
namespace Go.Proofs.YtopjjknojnfhmaaGreatDoor
open Go.RowKit Go.Deep
structure Gr (W:World) (lo:Nat) (t:TypeId) (sh:List Sh) (v:Value) (n:Nat) (G:List Nat) (es:List Dt) (xs:List Value):Prop where
 row:W.ownsRow lo t sh.length v n xs
 rep:Rep W false (bf n sh) G es xs
 nd:G.Nodup
 fr:∀ b∈G,lo≤b∧v.ownBlock≠some b
theorem bI {W:World} {lo e size m:Nat} {v:Value} {xs:List Value} (h:W.ownsRow lo e size v m xs) {g:Nat} (hg:v.ownBlock=some g):lo≤g∧g<W.heap.size:=by
 rcases h.2 with⟨q,_⟩|⟨g',cap,cur,q1,q2,q3,_⟩
 ·rw[q]at hg;cases hg
 ·rw[q1]at hg;injection hg with hg;subst hg;exact⟨q2,(Array.getElem?_eq_some_iff.1 q3).1⟩
theorem eA {w w':World} {lo:Nat} {e:TypeId} {size:Nat} {v:Value} {n:Nat} {xs:List Value} (h:w.ownsRow lo e size v n xs) (hb:Bel w w'):w'.ownsRow lo e size v n xs:=by
 refine⟨h.1,h.2.imp id ?_⟩;rintro⟨g,cap,cur,h1,h2,h3,h4⟩;exact⟨g,cap,cur,h1,h2,(hb.block g (Array.getElem?_eq_some_iff.1 h3).1).trans h3,h4⟩
theorem Gr.later {W W':World} {lo:Nat} {t:TypeId} {sh:List Sh} {v:Value} {n:Nat} {G:List Nat} {es:List Dt} {xs:List Value} (h:Gr W lo t sh v n G es xs) (hb:Bel W W'):Gr W' lo t sh v n G es xs:=
 ⟨eA h.row hb,h.rep.later hb,h.nd,h.fr⟩
theorem Gr.nil (W:World) (lo:Nat) (t:TypeId) (sh:List Sh):Gr W lo t sh (.slice none 0 0) 0 [] [] []:=
 ⟨⟨by simp,Or.inl ⟨rfl,rfl⟩⟩,.nil,List.nodup_nil,by simp⟩
theorem Gr.emp {W:World} {lo g:Nat} {t:TypeId} (sh:List Sh) (hg:W.heap[g]? =some (.cells #[] t (0,0))) (hl:lo≤g):Gr W lo t sh (.slice (some ⟨g,0,none⟩) 0 0) 0 [] [] []:=
 ⟨⟨by simp,Or.inr ⟨g,0,#[],rfl,hl,hg,zE,by decide,by simp,by simp⟩⟩,.nil,List.nodup_nil,by simp⟩
theorem Rep.grown {W W':World} {tt:Bool} {ss:List Sh} {F:List Nat} {ds:List Dt} {cs:List Value} {row:Option Nat} (h:Rep W tt ss F ds cs) (hg:W.grownBy W' row):(∀ b∈F,row≠some b)→Rep W' tt ss F ds cs:=by
 induction h with
 |nil=>intro _;exact .nil
 |i n h ih=>intro hS;exact .i n (ih hS)
 |b n h ih=>intro hS;exact .b n (ih hS)
 |s n h ih=>intro hS;exact .s n (ih hS)
 |emp t sh a ht h ih=>intro hS;exact .emp t sh a ht (ih hS)
 |row t sh p o n c u m vs es G ho hm ht hn hr he h ih1 ih=>
  intro hS;have hb:W'.heap[p]? =W.heap[p]? :=hg.block p ho.lt (fun e=>hS p (by simp) e.symm);refine .row t sh p o n c u m vs es G ?_ hm ht hn (cO hr fun j _=> ?_) (ih1 fun q hq=>hS q (by simp[hq])) (ih fun q hq=>hS q (by simp[hq]))
  ·obtain⟨cs,h1,h2⟩:=ho;exact⟨cs,hb.trans h1,h2⟩
  ·exact World.cell?_of_block (a:=⟨p,o+j,none⟩) hb
theorem mr {a W W':World} {row:Option Nat} (h:Bel a W) (hg:W.grownBy W' row) (hr:∀ b,row=some b→a.heap.size≤b):Bel a W':=
 ⟨hg.os.trans h.os,hg.tape.trans h.tape,hg.output.trans h.output,Nat.le_trans h.size hg.size,fun p hp=>(hg.block p (zL hp h.size) (fun e=>by have:=hr p e.symm;omega)).trans (h.block p hp)⟩
theorem aS.grown {W W':World} {row:Option Nat} {p:Nat} {cs:List Value} (h:aS W p cs) (hg:W.grownBy W' row) (hn:row≠some p):aS W' p cs:=
 ⟨zL h.lt hg.size,cO h.at_ fun j _=>World.cell?_of_block (a:=⟨p,0+j,none⟩) (hg.block p h.lt (fun e=>hn e.symm))⟩
theorem Gr.shape {W:World} {lo:Nat} {t:TypeId} {sh:List Sh} {v:Value} {n:Nat} {G:List Nat} {es:List Dt} {xs:List Value} (h:Gr W lo t sh v n G es xs):∃ a c,v=.slice a n c:=by
 rcases h.row.2 with⟨e,rfl⟩|⟨_,_,_,e,_⟩
 ·exact⟨_,_,e⟩
 ·exact⟨_,_,e⟩
theorem pS (W:World) (cs:Array Value) (t:TypeId):∀ j u,cs.toList[j]? =some u→(W.alloc (.cells cs t)).cell? ((⟨W.heap.size,0,none⟩:Addr).add j)=some u:=fun j u hu=>by
 rw[Addr.add_mid,Nat.zero_add];refine(World.cell?_alloc_at _ _ _ _ rfl).trans ?_;simpa using hu
theorem Gr.push {W w2 w3:World} {lo:Nat} {t:TypeId} {sh:List Sh} {v:Value} {n:Nat} {G F:List Nat} {es e:List Dt} {xs c:List Value} {g cap:Nat} (h:Gr W lo t sh v n G es xs) (hb:Bel W w2) (hr:Rep w2 false sh F e c) (jl:F.Nodup) (hf:∀ b∈F,W.heap.size≤b) (bR:lo≤W.heap.size)
  (ff:w3.ownsRow lo t sh.length (.slice (some ⟨g,0,none⟩) (n+1) cap) (n+1) (xs++c)) (hg:w2.grownBy w3 v.ownBlock) {H:Nat} (hH:w2.heap.size≤H) (wW:v.ownBlock=some g∨g=H):
  Gr w3 lo t sh (.slice (some ⟨g,0,none⟩) (n+1) cap) (n+1) (G++F) (es++e) (xs++c):=by
 have h2:=h.later hb;have hvF:∀ b∈F,v.ownBlock≠some b:=fun b hb e=>by have:=(bI h.row e).2;have:=hf b hb;omega
 refine⟨ff, ?_, ?_, ?_⟩
 ·rw[iv];exact(h2.rep.grown hg fun b hb=>(h2.fr b hb).2).app (hr.grown hg hvF)
 ·rw[List.nodup_append];exact⟨h.nd,jl,fun a ha b hb e=>by have:=h.rep.lt a ha;have:=hf b hb;omega⟩
 ·intro b hb;rcases List.mem_append.1 hb with hb|hb
  ·refine⟨(h2.fr b hb).1,fun e=> ?_⟩;have e1:g=b:=by injection e
   rcases wW with q|q
   ·exact(h2.fr b hb).2 (by rw[q,e1])
   ·have:=h2.rep.lt b hb;omega
  ·refine⟨Nat.le_trans bR (hf b hb),fun e=> ?_⟩;have e1:g=b:=by injection e
   rcases wW with q|q
   ·exact hvF b hb (by rw[q,e1])
   ·have:=hr.lt b hb;omega
theorem Gr.done {W:World} {lo:Nat} {t:TypeId} {sh:List Sh} {v:Value} {n:Nat} {G:List Nat} {es:List Dt} {xs:List Value} (h:Gr W lo t sh v n G es xs):∃ F,Rep W false [.row t sh] F [.row n es] [v]∧F.Nodup∧∀ b∈F,lo≤b:=by
 rcases h.row.2 with⟨rfl,rfl⟩|⟨g,cap,cur,rfl,q2,q3,q4,q5,q6,q7⟩
 ·have hr:=h.rep;rw[eK]at hr;cases hr
  exact⟨[],.emp _ _ none rfl .nil,List.nodup_nil,by simp⟩
 ·refine⟨g::(G++[]),.row t sh g 0 n cap t (cap*sh.length) xs es G ⟨cur,q3,q6⟩ (by omega) (by simp) ⟨Nat.le_trans q4 q5,q4⟩ ?_ h.rep .nil, ?_, ?_⟩
  ·intro j x hx;rw[← q7]at hx;have hl:j<n*sh.length:=by have:=(List.getElem?_eq_some_iff.1 hx).1;rw[List.length_take]at this;omega
   rw[List.getElem?_take_of_lt hl]at hx;rw[Nat.zero_add];simp only[World.cell?,q3];simpa using hx
  ·rw[List.append_nil,List.nodup_cons];exact⟨fun e=>(h.fr g e).2 rfl,h.nd⟩
  ·intro b hb;rw[List.append_nil]at hb;rcases List.mem_cons.1 hb with rfl|hb
   ·exact q2
   ·exact(h.fr b hb).1
theorem fW {α:Type} (f:α→List Dt) (k:Nat) (hf:∀ x,(f x).length=k):∀ l:List α,(l.flatMap f).length=l.length*k
 |[]=>by simp
 |x::xs=>by rw[List.flatMap_cons,List.length_append,hf,fW f k hf xs,List.length_cons,Nat.add_mul];omega
theorem j8 {α:Type} (d:α) (f:α→List Dt) (k:Nat) (hf:∀ x,(f x).length=k) (l:List α) (q:Nat) (hq:q<l.length):el k q (l.flatMap f)=f (l.getD q d):=by
 have e:l=l.take q++(l.getD q d::l.drop (q+1)):=by
  have:l.getD q d=l[q]:=by simp[hq]
  rw[this,List.getElem_cons_drop,List.take_append_drop]
 have hl:((l.take q).flatMap f).length=q*k:=by rw[fW f k hf,List.length_take];congr 1;omega
 have e2:l.flatMap f=(l.take q).flatMap f++(f (l.getD q d)++(l.drop (q+1)).flatMap f):=by
  conv=>lhs;rw[e]
  rw[List.flatMap_append,List.flatMap_cons]
 rw[e2];exact xA hl (hf _)
def Ans (sh:List Sh) (A:List Dt) (W:World) (e:Ending) (w':World):Prop:=∃ c F,e=.returned (.agg c.toArray)∧Rep w' false sh F A c∧F.Nodup∧(∀ b∈F,W.heap.size≤b)∧Bel W w'
def qC (sh:List Sh) (A:Dt) (W:World) (e:Ending) (w':World):Prop:=∃ v F,e=.returned v∧Rep w' false sh F [A] [v]∧F.Nodup∧(∀ b∈F,W.heap.size≤b)∧Bel W w'
def cZ:List Sh→Bool
 |[]=>true
 |.row _ _::_=>false
 |.i::ss=>cZ ss
 |.b::ss=>cZ ss
 |.s::ss=>cZ ss
theorem Raw.flat {w:World} {ss:List Sh} {ds:List Dt} {cs:List Value} (h:Raw w ss ds cs):cZ ss=true→∀ w' tt,Rep w' tt ss [] ds cs:=by
 induction h with
 |nil=>intro _ _ _;exact .nil
 |i n h ih=>intro hf w' tt;rw[cZ]at hf;exact .i n (ih hf w' tt)
 |b n h ih=>intro hf w' tt;rw[cZ]at hf;exact .b n (ih hf w' tt)
 |s n h ih=>intro hf w' tt;rw[cZ]at hf;exact .s n (ih hf w' tt)
 |emp t sh a c h ih=>intro hf;rw[cZ]at hf;cases hf
 |row t sh p o n c vs es hp hn hr he h ih1 ih=>intro hf;rw[cZ]at hf;cases hf
theorem jW:∀ (a b:List Sh),cZ (a++b)=(cZ a&&cZ b)
 |[],b=>by simp[cZ]
 |.row t sh::ss,b=>by rw[List.cons_append,cZ,cZ];rfl
 |.i::ss,b=>by rw[List.cons_append,cZ,cZ,jW ss b]
 |.b::ss,b=>by rw[List.cons_append,cZ,cZ,jW ss b]
 |.s::ss,b=>by rw[List.cons_append,cZ,cZ,jW ss b]
theorem pI {sh:List Sh} (h:cZ sh=true):∀ n,cZ (bf n sh)=true
 |0=>by rw[eK,cZ]
 |n+1=>by rw[bW,jW,h,pI h n];rfl
def JO (W:World) (lo:Nat) (e:TypeId) (v:Value):Prop:=v=.slice none 0 0∨∃ g,v=.slice (some ⟨g,0,none⟩) 0 0∧lo≤g∧W.heap[g]? =some (.cells #[] e (0,0))
theorem JO.owns {W:World} {lo:Nat} {e:TypeId} {v:Value} (h:JO W lo e v) (size:Nat):W.ownsRow lo e size v 0 []:=by
 rcases h with rfl|⟨g,rfl,hl,hg⟩
 ·exact⟨by simp,Or.inl ⟨rfl,rfl⟩⟩
 ·exact⟨by simp,Or.inr ⟨g,0,#[],rfl,hl,hg,zE,by decide,by simp,by simp⟩⟩
theorem pQ {P:Program} (lo:Nat) (t ty e t0:TypeId) (size bytes:Nat) (z:Value) (ht:P.underlying t=some (.slice e)) (hinf:(P.info? e).map (fun i=>(i.zero,i.size,i.bytes))=some (some z,size,bytes)) (I5:z.cells.size=size) (zv:0<size) (hb:bytes≤1000)
  (sh:List Sh) (hk:sh.length=size) (EB:cZ sh=true) (W:World) (v0:Value) (Fz:JO W lo e v0) (bR:lo≤W.heap.size) (n:Nat) (es:List Dt) (v:Value) (h:Raw W [.row t0 sh] [.row n es] [v]) (hn:n≤4194304):
  ∃ v' W' xs,(Builtin.append_ #[t,t] ty #[v0,v]).run P W=.ok v' W'∧Gr W' lo e sh v' n [] es xs∧Bel W W':=by
 obtain⟨i,hi,ei⟩:=Option.map_eq_some_iff.1 hinf;simp only[Prod.mk.injEq]at ei;obtain⟨hz,hs,ud⟩:=ei;by_cases h0:n=0
 ·subst h0;have he0:es=[]:=List.eq_nil_of_length_eq_zero (by obtain⟨_,_,_,q,t,_⟩:=h.typ.c_r;injection q with e1 e2;injection e1 with e3 e4;subst e3;subst e4;have:=t.rows;omega);subst he0;obtain⟨a,c,rfl⟩:=h.bm;have kX:Src P i.size t (.slice a 0 c) 0 [] W:=by
   cases a with
   |none=>exact Src.ofNil W ht c
   |some ad=>exact Src.ofSlice W ht ad 0 c [] (by simp) (fun j u h=>by simp at h) (fun u h=>by cases h)
  refine⟨v0,W,[], ?_,⟨by rw[hk];exact Fz.owns size,.nil,List.nodup_nil,by simp⟩,zR⟩;rcases Fz with rfl|⟨g,rfl,_,_⟩
  ·have h1:=kX.len;have h2:=kX.cells;simp[Builtin.append_,run_underlying ht,sizeOf,typeInfo,hi,h1,h2]
  ·have:=run_append_room_src (P:=P) W t t ty e i ht hi g 0 0 0 (.slice a 0 c) 0 [] kX (by omega) (fun j h=>by simp at h) (fun j h=>by simp at h);rw[this];rfl
 ·rcases h.slice with⟨e0,_⟩|⟨p,o,c,rfl,hp,qs,vs,hr,hR⟩
  ·exact absurd e0 h0
  have hl:vs.length=n*size:=by rw[hR.len,bj,hk]
  have tS:n*bytes≤4194304*1000:=Nat.mul_le_mul hn hb;obtain⟨v',W',dM,ff,fw,_⟩:=run_append_own (P:=P) (w:=W) lo t ty e i z size bytes ht hi hz hs ud I5 zv v0 0 [] (Fz.owns size) ⟨p,o,none⟩ n c vs hl (fun j u hu=>by rw[Addr.add_mid];exact hr j u hu) hR.one (by unfold maxLen;omega) (by rw[Nat.zero_add];omega) bR;rw[Nat.zero_add,List.nil_append]at ff;refine⟨v',W',vs,dM,⟨by rw[hk];exact ff,hR.flat (pI EB n) W' false,List.nodup_nil,by simp⟩, ?_⟩;rcases Fz with rfl|⟨g,rfl,fo,ny⟩
  ·exact⟨fw.os,fw.tape,fw.output,fw.size,fun q hq=>fw.block q hq (by simp[Value.ownBlock])⟩
  ·have RS:W'.heap[g]? =W.heap[g]? :=by
    have tP:g<W.heap.size:=(Array.getElem?_eq_some_iff.1 ny).1;have PJ:=run_append_grow (P:=P) W t ty e i z ht hi hz ⟨g,0,none⟩ 0 0 [] (by simp) (fun j v h=>by simp at h) ⟨p,o,none⟩ n c vs (by rw[hs];exact hl) (fun j u hu=>by rw[Addr.add_mid];exact hr j u hu) (by omega) (by omega) (growslice_fits (by omega) (by rw[Nat.zero_add,ud];omega));rw[PJ]at dM;injection dM with _ hw
    rw[← hw];exact(ae (Below.drew zR) _:Bel W _).block g tP
   refine⟨fw.os,fw.tape,fw.output,fw.size,fun q hq=> ?_⟩;by_cases eq:q=g
   ·subst eq;exact RS
   ·exact fw.block q hq (by simp[Value.ownBlock,eq])
theorem aQ {P:Program} {o:Oper} {a:Act} {W W':World} {v x v':Value} (s y:Operand) (t:TypeId) (iH:o.op=Op.call {callee:=Callee.builtin Builtin.append,args:=#[s,y],argTypes:=#[t,t]}) (hs:a.eval s=v) (hx:a.eval y=x)
  (dM:(Builtin.append_ #[t,t] o.type #[v,x]).run P W=.ok v' W'):(execOp a.eval o).run P W=.ok (.value v') W':=by
 simp[execOp,iH,resolve,invoke,builtin,hs,hx,dM,Result.andThen]
structure al (W:World) (p:Nat) (u:TypeId) (cs:List Value):Prop where
 own:aV W p u cs.length
 at_:W.rangeAt p 0 cs
theorem al.later {W W':World} {p:Nat} {u:TypeId} {cs:List Value} (h:al W p u cs) (hb:Bel W W'):al W' p u cs:=⟨h.own.later hb,aB h.at_ h.own.lt hb⟩
theorem al.new (W:World) (cs:List Value) (u:TypeId) (p:Nat) (hp:p=W.heap.size):al (W.alloc (.cells cs.toArray u)) p u cs:=
 ⟨aV.Ay W _ _ _ _ (by simp) hp,(aS.new W cs.toArray u p hp).at_⟩
theorem al.get {W:World} {p:Nat} {u:TypeId} {cs:List Value} (h:al W p u cs) (j:Nat) (v:Value) (hv:cs[j]? =some v):W.cell? ⟨p,j,none⟩=some v:=by
 have:=h.at_ j v hv;rwa [Nat.zero_add]at this
theorem al.mks {W W':World} {S:Nat→Prop} {p:Nat} {u:TypeId} {cs:List Value} (h:al W p u cs) (hb:Marks S W W') (hp:¬ S p):al W' p u cs:=
 ⟨hb.own _ _ _ h.own,cO h.at_ fun _ _=>hb.cell h.own.lt hp _⟩
theorem al.set {W:World} {p:Nat} {u:TypeId} {cs:List Value} (h:al W p u cs) (j:Nat) (x:Value) (hj:j<cs.length):al (W.setCell ⟨p,j,none⟩ x) p u (cs.set j x):=by
 refine⟨by rw[List.length_set];exact h.own.setCell _ _,fun i v hv=> ?_⟩;rw[Nat.zero_add];rw[List.getElem?_set]at hv;by_cases e:j=i
 ·subst e;rw[if_pos rfl,if_pos hj]at hv;injection hv with hv;subst hv
  exact uw h.own _ hj _
 ·rw[if_neg e]at hv;exact(ni _ _ _ _ _ _ (Or.inr (fun q=>e q.symm))).trans (h.get i v hv)
theorem al.other {W:World} {p q:Nat} {u:TypeId} {cs:List Value} (h:al W p u cs) (hn:p≠q) (j:Nat) (x:Value):al (W.setCell ⟨q,j,none⟩ x) p u cs:=
 h.mks (Marks.sc (S:=fun b=>b=q) W rfl j x) hn
theorem al.QL {W:World} {p:Nat} {u:TypeId} {x y z:List Value} (h:al W p u (x++(y++z))) (y':List Value) (hl:y'.length=y.length):al (W.setCells p x.length y') p u (x++(y'++z)):=by
 have e1:(x++(y'++z)).length=(x++(y++z)).length:=by simp[hl]
 obtain⟨h1,h2⟩:=dA h.at_;obtain⟨_,h3⟩:=dA h2;rw[Nat.zero_add]at h2 h3;refine⟨by rw[e1];exact dB _ _ _ h.own,kJ ?_ (kJ ?_ ?_)⟩
 ·exact World.rangeAt_setCells_apart h1 _ _ _ (Or.inr (Or.inl (by omega)))
 ·rw[Nat.zero_add];exact World.rangeAt_setCells_same _ _ _ _ (aR h.own _ _ (by simp;omega))
 ·rw[Nat.zero_add,hl];exact World.rangeAt_setCells_apart h3 _ _ _ (Or.inr (Or.inr (by omega)))
theorem yX {A B:List Nat} {m:Nat} (ha:A.Nodup) (hb:B.Nodup) (h1:∀ x∈A,x<m) (h2:∀ x∈B,m≤x):(A++B).Nodup:=by
 rw[List.nodup_append];exact⟨ha,hb,fun a ha b hb e=>by have:=h1 a ha;have:=h2 b hb;omega⟩
theorem Gp {A B:List Nat} {m:Nat} (h1:∀ x∈A,m≤x) (h2:∀ x∈B,m≤x):∀ x∈A++B,m≤x:=fun x hx=>(List.mem_append.1 hx).elim (h1 x) (h2 x)
set_option maxHeartbeats 40000000
theorem jU (n lo hi:Int) (w:World):
  Calls Tryz.prog 52 #[.int .i64 n,.int .i64 lo,.int .i64 hi] w fun e w'=>e=.returned (.bool (decide (lo≤n)&&decide (n≤hi)))∧w=w':=by
 by_cases h:lo≤n
 all_goals
  go_enter Tryz.func52,Tryz.ntmps52
  go_wp2;go_ret;exact⟨Pl.aq (by rw[Bool.eq_iff_iff];simp;try omega),rfl⟩
theorem vA (c:UInt8) (w:World):
  Calls Tryz.prog 69 #[.int .u8 c.toNat] w fun e w'=>e=.returned (.bool (Pl.bx c))∧w=w':=by
 go_enter Tryz.func69,Tryz.ntmps69
 go_wp2
 all_goals go_ret
 all_goals exact⟨Pl.aq (by rw[Bool.eq_iff_iff];simp[Pl.bx]at*;omega),rfl⟩
theorem Tryz.dv:Tryz.prog.underlying 22=some (.slice 5):=by kernel_rfl
theorem Tryz.lZ:(Tryz.prog.info? 5).map (fun i=>(i.zero,i.size,i.bytes))=some (some (.int .u8 0),1,1):=by kernel_rfl
theorem ji {P:Program} {t:TypeId} {z:Value} {n b:Nat} (h:(P.info? t).map (fun i=>(i.zero,i.size,i.bytes))=some (some z,n,b)):∃ i,P.info? t=some i∧i.zero=some z∧i.size=n∧i.bytes=b:=by
 cases hi:P.info? t with
 |none=>rw[hi]at h;cases h
 |some i=>rw[hi]at h;simp only[Option.map_some,Option.some.injEq,Prod.mk.injEq]at h;exact⟨i,rfl,h.1,h.2.1,h.2.2⟩
def By (W:World) (lo:Nat) (v:Value) (l:List UInt8):Prop:=W.ownsRow lo 5 1 v l.length (Pl.byV l)
theorem By.later {W W':World} {lo:Nat} {v:Value} {l:List UInt8} (h:By W lo v l) (hb:Bel W W'):By W' lo v l:=eA h hb
theorem By.nil (W:World) (lo:Nat):By W lo (.slice none 0 0) []:=World.ownsRow_nil ..
theorem By.emp (W:World) (lo:Nat) (h:lo≤W.heap.size):By (W.alloc (.cells #[] 5)) lo (.slice (some ⟨W.heap.size,0,none⟩) 0 0) []:=World.ownsRow_made W #[] 0 h (by decide) rfl
theorem By.made (W:World) (lo:Nat) (c:UInt8) (h:lo≤W.heap.size):By (W.alloc (.cells #[.int .u8 (c.toNat:Int)] 5)) lo (.slice (some ⟨W.heap.size,0,none⟩) 1 1) [c]:=
 ⟨by simp[Pl.byV],.inr ⟨W.heap.size,1,_,rfl,h,heap_alloc_new W _,zE,by decide,rfl,rfl⟩⟩
theorem By.shape {W:World} {lo:Nat} {v:Value} {l:List UInt8} (h:By W lo v l):∃ a c,v=.slice a l.length c:=by
 rcases h.2 with⟨e,h0⟩|⟨g,cap,_,e,_⟩
 ·exact⟨none,0,by rw[e,h0]⟩
 ·exact⟨_,_,e⟩
theorem By.str {W:World} {lo:Nat} {v:Value} {l:List UInt8} (h:By W lo v l) (h0:0<l.length):(convert 22 9 v).run Tryz.prog W=.ok (.string ⟨l.toArray⟩) W:=by
 rcases h.2 with⟨_,e⟩|⟨g,cap,cur,e,_,hg,hn,_,_,ht⟩
 ·omega
 ·rw[e];refine run_convert_bytes_back (P:=Tryz.prog) W 22 9 5 ⟨g,0,none⟩ cap l Tryz.dv (by kernel_rfl) (by kernel_rfl) fun j hj=> ?_;have hx:(Pl.byV l)[j]? =some (.int .u8 (l[j].toNat:Int)):=by simp[Pl.byV,hj]
  have q:cur.toList[j]? =some (.int .u8 (l[j].toNat:Int)):=by rw[← hx,← ht,List.getElem?_take,if_pos (by omega)]
  rw[show (Addr.add ⟨g,0,none⟩ j)=⟨g,j,none⟩ by rw[Addr.add_mid,Nat.zero_add]];simp only[World.cell?,hg];simpa using q
theorem By.zp {W:World} {lo:Nat} {v:Value} {l:List UInt8} (h:By W lo v l):(convert 22 9 v).run Tryz.prog W=.ok (.string ⟨l.toArray⟩) W:=by
 rcases h.2 with⟨e1,e⟩|⟨g,cap,cur,e,_,hg,hn,_,_,ht⟩
 ·have:l=[]:=List.eq_nil_of_length_eq_zero e;subst this;rw[e1,run_convert_bytes_string (P:=Tryz.prog) W 22 9 5 none 0 0 Tryz.dv (by kernel_rfl) (by kernel_rfl)];rfl
 ·rw[e];refine run_convert_bytes_back (P:=Tryz.prog) W 22 9 5 ⟨g,0,none⟩ cap l Tryz.dv (by kernel_rfl) (by kernel_rfl) fun j hj=> ?_;have hx:(Pl.byV l)[j]? =some (.int .u8 (l[j].toNat:Int)):=by simp[Pl.byV,hj]
  have q:cur.toList[j]? =some (.int .u8 (l[j].toNat:Int)):=by rw[← hx,← ht,List.getElem?_take,if_pos (by omega)]
  rw[show (Addr.add ⟨g,0,none⟩ j)=⟨g,j,none⟩ by rw[Addr.add_mid,Nat.zero_add]];simp only[World.cell?,hg];simpa using q
theorem By.below {W w':World} {a:World} {lo:Nat} {v:Value} {l:List UInt8} (h:By W lo v l) (hb:Bel a W) (hg:W.grownBy w' v.ownBlock) (bR:a.heap.size≤lo):Bel a w':=
 Below.grown hb hg hb.size fun q hq=>by have:=(World.ownsRow.lt h q hq).1;omega
theorem k6 {w:World} {ops:Array Oper} {rest:List Oper} {o:Oper} {a:Act} {Q:Exit→Act→World→Prop} (nN:o.guard=none) (s x:Operand)
  (ho:o.op=.call {callee:=.builtin .append,args:=#[s,x],argTypes:=#[22,22]}) (lo:Nat) (v:Value) (l:List UInt8) (hs:a.eval s=v) (ff:By w lo v l)
  (B m c:Nat) (news:List UInt8) (hx:a.eval x=.slice (some ⟨B,0,none⟩) m c) (hl:news.length=m) (hnews:∀ j u,(Pl.byV news)[j]? =some u→w.cell? ((⟨B,0,none⟩:Addr).add j)=some u)
  (hm:0<m) (h63:l.length+m≤1099511627776) (bR:lo≤w.heap.size)
  (h:∀ g cap w',By w' lo (.slice (some ⟨g,0,none⟩) (l.length+m) cap) (l++news)→w.grownBy w' v.ownBlock→wpList Tryz.prog ops Q rest (a.put o.dst (.slice (some ⟨g,0,none⟩) (l.length+m) cap)) w'):wpList Tryz.prog ops Q (o::rest) a w:=by
 obtain⟨i0,hi,ga,dJ,gH⟩:=ji Tryz.lZ;refine wpList_append_lies w nN s x 22 ho lo 5 i0 _ 1 1 Tryz.dv hi ga dJ gH rfl (by omega) v l.length (Pl.byV l) hs ff ⟨B,0,none⟩ m c (Pl.byV news) hx (by rw[Pl.y8,hl,Nat.mul_one]) hnews
  (fun u hu=>by obtain⟨b,_,rfl⟩:=List.mem_map.1 hu;rfl) hm (by unfold maxLen;omega) (by omega) bR _ rfl fun g cap w' q1 q2 _ _=>h g cap w' ?_ q2
 unfold By;rw[Pl.sV,List.length_append,hl];exact q1
theorem Ek {w:World} {lo:Nat} {v:Value} {l:List UInt8} (ff:By w lo v l) (ty:TypeId)
  (B m c:Nat) (news:List UInt8) (hl:news.length=m) (cs:Array Value) (iE:cs.toList=Pl.byV news) (hB:w.heap[B]? =some (.cells cs 5 (0,0)))
  (hm:0<m) (h63:l.length+m≤1099511627776) (bR:lo≤w.heap.size):
  ∃ g cap w',(Builtin.append_ #[22,22] ty #[v,.slice (some ⟨B,0,none⟩) m c]).run Tryz.prog w=.ok (.slice (some ⟨g,0,none⟩) (l.length+m) cap) w'∧
   By w' lo (.slice (some ⟨g,0,none⟩) (l.length+m) cap) (l++news)∧w.grownBy w' v.ownBlock:=by
 obtain⟨i0,hi,ga,dJ,gH⟩:=ji Tryz.lZ;obtain⟨g,cap,w',h1,h2,h3,_⟩:=run_append_lies (P:=Tryz.prog) w 22 ty lo 5 i0 _ 1 1 Tryz.dv hi ga dJ gH rfl (by omega) v l.length (Pl.byV l) ff ⟨B,0,none⟩ m c (Pl.byV news) (by rw[Pl.y8,hl,Nat.mul_one]) (by rw[← iE];exact World.news_of_block hB)
  (fun u hu=>by obtain⟨b,_,rfl⟩:=List.mem_map.1 hu;rfl) hm (by unfold maxLen;omega) (by omega) bR _ rfl
 refine⟨g,cap,w',h1, ?_,h3⟩;unfold By;rw[Pl.sV,List.length_append,hl];exact h2
def Dj:ByteArray:=⟨#[48,49,50,51,52,53,54,55,56,57,97,98,99,100,101,102]⟩
theorem Nm:∀ n:Fin 16,(Dj.data.toList.getD n.1 0)=Pl.dd n.1:=by decide
theorem Nv (n:Nat) (h:n<Dj.size):Dj[n]=Pl.dd n:=by
 have h':n<16:=h;rw[← Nm ⟨n,h'⟩];simp[Dj,h'];rfl
theorem sL (n:Nat) (h:n<16) (w:World):(Instr.index 9 (.string ⟨#[48,49,50,51,52,53,54,55,56,57,97,98,99,100,101,102]⟩) (.int .u8 (n:Int))).run Tryz.prog w=.ok (.int .u8 ((Pl.dd n).toNat:Int)) w:=by
 rw[run_index_string w 9 _ .u8 (n:Int) (by kernel_rfl),dif_pos ⟨by omega,by show (n:Int)<16;omega⟩];have:=Nv n h;simp only[Dj]at this;simp only[Int.toNat_natCast];rw[this]
end Go.Proofs.YtopjjknojnfhmaaGreatDoor
