import Derived.Deep.AppendLies
import Derived.Laws.AppendOwn
import Derived.BigFrame
import Derived.Deep.AppendSrc
import Derived.Lib.AppendZeros
import Derived.Laws.OwnMore
import Derived.Test.YtmgibmmpopoboaaProg
import Derived.RowKit
import Derived.WalkKit
import Derived.WalkSpells
import Derived.WalkLawsBesides
import Derived.Laws.IdiomStrings
import Derived.Deep.RegionHeldLaw
import Derived.Test.YtmgibmmpopoboaaUB
import Derived.Test.YtmgibmmpopoboaaEPl
import Derived.Test.YtmgibmmpopoboaaRgF
namespace Go.Proofs.Ytmgibmmpopoboaa
open Go.RowKit Go.Deep
structure Gr (W:World) (lo:Nat) (t:TypeId) (sh:List Sh) (v:Value) (n:Nat) (G:List Nat) (es:List Dt) (xs:List Value):Prop where
 row:W.ownsRow lo t sh.length v n xs
 rep:Rep W false (bP n sh) G es xs
 nd:G.Nodup
 fr:∀ b∈G,lo≤b∧v.ownBlock≠some b
theorem bK {W:World} {lo e size m:Nat} {v:Value} {xs:List Value} (h:W.ownsRow lo e size v m xs) {g:Nat} (hg:v.ownBlock=some g):lo≤g∧g<W.heap.size:=by
 rcases h.2 with⟨q,_⟩|⟨g',cap,cur,q1,q2,q3,_⟩
 ·rw[q]at hg;cases hg
 ·rw[q1]at hg;injection hg with hg;subst hg;exact⟨q2,(Array.getElem?_eq_some_iff.1 q3).1⟩
theorem dX {w w':World} {lo:Nat} {e:TypeId} {size:Nat} {v:Value} {n:Nat} {xs:List Value} (h:w.ownsRow lo e size v n xs) (hb:Bel w w'):w'.ownsRow lo e size v n xs:=by
 refine⟨h.1,h.2.imp id ?_⟩;rintro⟨g,cap,cur,h1,h2,h3,h4⟩;exact⟨g,cap,cur,h1,h2,(hb.block g (Array.getElem?_eq_some_iff.1 h3).1).trans h3,h4⟩
theorem Gr.ae {W W':World} {lo:Nat} {t:TypeId} {sh:List Sh} {v:Value} {n:Nat} {G:List Nat} {es:List Dt} {xs:List Value} (h:Gr W lo t sh v n G es xs) (hb:Bel W W'):Gr W' lo t sh v n G es xs:=
 ⟨dX h.row hb,h.rep.ae hb,h.nd,h.fr⟩
theorem Gr.nil (W:World) (lo:Nat) (t:TypeId) (sh:List Sh):Gr W lo t sh (.slice none 0 0) 0 [] [] []:=
 ⟨⟨by simp,Or.inl ⟨rfl,rfl⟩⟩,.nil,List.nodup_nil,by simp⟩
theorem Gr.emp {W:World} {lo g:Nat} {t:TypeId} (sh:List Sh) (hg:W.heap[g]? =some (.cells #[] t (0,0))) (hl:lo≤g):Gr W lo t sh (.slice (some ⟨g,0,none⟩) 0 0) 0 [] [] []:=
 ⟨⟨by simp,Or.inr ⟨g,0,#[],rfl,hl,hg,zE,by decide,by simp,by simp⟩⟩,.nil,List.nodup_nil,by simp⟩
theorem Rep.grown {W W':World} {tt:Bool} {ss:List Sh} {F:List Nat} {ds:List Dt} {cs:List Value} {row:Option Nat} (h:Rep W tt ss F ds cs) (hg:W.grownBy W' row):(∀ b∈F,row≠some b)→Rep W' tt ss F ds cs:=by
 induction h with
 |nil=>intro _;exact .nil
 |i n h ih=>intro hS;exact .i n (ih hS)
 |b n h ih=>intro hS;exact .b n (ih hS)
 |s n h ih=>intro hS;exact .s n (ih hS)
 |emp t sh a ht h ih=>intro hS;exact .emp t sh a ht (ih hS)
 |row t sh p o n c u m vs es G ho hm ht hn hr he h ih1 ih=>
  intro hS;have hb:W'.heap[p]? =W.heap[p]? :=hg.block p ho.lt (fun e=>hS p (by simp) e.symm);refine .row t sh p o n c u m vs es G ?_ hm ht hn (cM hr fun j _=> ?_) (ih1 fun q hq=>hS q (by simp[hq])) (ih fun q hq=>hS q (by simp[hq]))
  ·obtain⟨cs,h1,h2⟩:=ho;exact⟨cs,hb.trans h1,h2⟩
  ·exact World.cell?_of_block (a:=⟨p,o+j,none⟩) hb
theorem fg {a W W':World} {row:Option Nat} (h:Bel a W) (hg:W.grownBy W' row) (hr:∀ b,row=some b→a.heap.size≤b):Bel a W':=
 ⟨hg.os.trans h.os,hg.tape.trans h.tape,hg.output.trans h.output,Nat.le_trans h.size hg.size,fun p hp=>(hg.block p (zL hp h.size) (fun e=>by have:=hr p e.symm;omega)).trans (h.block p hp)⟩
theorem aD.grown {W W':World} {row:Option Nat} {p:Nat} {cs:List Value} (h:aD W p cs) (hg:W.grownBy W' row) (hn:row≠some p):aD W' p cs:=
 ⟨zL h.lt hg.size,cM h.at_ fun j _=>World.cell?_of_block (a:=⟨p,0+j,none⟩) (hg.block p h.lt (fun e=>hn e.symm))⟩
theorem Gr.shape {W:World} {lo:Nat} {t:TypeId} {sh:List Sh} {v:Value} {n:Nat} {G:List Nat} {es:List Dt} {xs:List Value} (h:Gr W lo t sh v n G es xs):∃ a c,v=.slice a n c:=by
 rcases h.row.2 with⟨e,rfl⟩|⟨_,_,_,e,_⟩
 ·exact⟨_,_,e⟩
 ·exact⟨_,_,e⟩
theorem iW (W:World) (cs:Array Value) (t:TypeId):∀ j u,cs.toList[j]? =some u→(W.alloc (.cells cs t)).cell? ((⟨W.heap.size,0,none⟩:Addr).add j)=some u:=fun j u hu=>by
 rw[Addr.add_mid,Nat.zero_add];refine(World.cell?_alloc_at _ _ _ _ rfl).trans ?_;simpa using hu
theorem Gr.push {W w2 w3:World} {lo:Nat} {t:TypeId} {sh:List Sh} {v:Value} {n:Nat} {G F:List Nat} {es e:List Dt} {xs c:List Value} {g cap:Nat} (h:Gr W lo t sh v n G es xs) (hb:Bel W w2) (hr:Rep w2 false sh F e c) (kY:F.Nodup) (hf:∀ b∈F,W.heap.size≤b) (eN:lo≤W.heap.size)
  (hU:w3.ownsRow lo t sh.length (.slice (some ⟨g,0,none⟩) (n+1) cap) (n+1) (xs++c)) (hg:w2.grownBy w3 v.ownBlock) {H:Nat} (hH:w2.heap.size≤H) (Es:v.ownBlock=some g∨g=H):
  Gr w3 lo t sh (.slice (some ⟨g,0,none⟩) (n+1) cap) (n+1) (G++F) (es++e) (xs++c):=by
 have h2:=h.ae hb;have hvF:∀ b∈F,v.ownBlock≠some b:=fun b hb e=>by have:=(bK h.row e).2;have:=hf b hb;omega
 refine⟨hU, ?_, ?_, ?_⟩
 ·rw[dx];exact(h2.rep.grown hg fun b hb=>(h2.fr b hb).2).app (hr.grown hg hvF)
 ·rw[List.nodup_append];exact⟨h.nd,kY,fun a ha b hb e=>by have:=h.rep.lt a ha;have:=hf b hb;omega⟩
 ·intro b hb;rcases List.mem_append.1 hb with hb|hb
  ·refine⟨(h2.fr b hb).1,fun e=> ?_⟩;have e1:g=b:=by injection e
   rcases Es with q|q
   ·exact(h2.fr b hb).2 (by rw[q,e1])
   ·have:=h2.rep.lt b hb;omega
  ·refine⟨Nat.le_trans eN (hf b hb),fun e=> ?_⟩;have e1:g=b:=by injection e
   rcases Es with q|q
   ·exact hvF b hb (by rw[q,e1])
   ·have:=hr.lt b hb;omega
theorem Gr.done {W:World} {lo:Nat} {t:TypeId} {sh:List Sh} {v:Value} {n:Nat} {G:List Nat} {es:List Dt} {xs:List Value} (h:Gr W lo t sh v n G es xs):∃ F,Rep W false [.row t sh] F [.row n es] [v]∧F.Nodup∧∀ b∈F,lo≤b:=by
 rcases h.row.2 with⟨rfl,rfl⟩|⟨g,cap,cur,rfl,q2,q3,q4,q5,q6,q7⟩
 ·have hr:=h.rep;rw[dj]at hr;cases hr
  exact⟨[],.emp _ _ none rfl .nil,List.nodup_nil,by simp⟩
 ·refine⟨g::(G++[]),.row t sh g 0 n cap t (cap*sh.length) xs es G ⟨cur,q3,q6⟩ (by omega) (by simp) ⟨Nat.le_trans q4 q5,q4⟩ ?_ h.rep .nil, ?_, ?_⟩
  ·intro j x hx;rw[← q7]at hx;have hl:j<n*sh.length:=by have:=(List.getElem?_eq_some_iff.1 hx).1;rw[List.length_take]at this;omega
   rw[List.getElem?_take_of_lt hl]at hx;rw[Nat.zero_add];simp only[World.cell?,q3];simpa using hx
  ·rw[List.append_nil,List.nodup_cons];exact⟨fun e=>(h.fr g e).2 rfl,h.nd⟩
  ·intro b hb;rw[List.append_nil]at hb;rcases List.mem_cons.1 hb with rfl|hb
   ·exact q2
   ·exact(h.fr b hb).1
theorem fO {α:Type} (f:α→List Dt) (k:Nat) (hf:∀ x,(f x).length=k):∀ l:List α,(l.flatMap f).length=l.length*k
 |[]=>by simp
 |x::xs=>by rw[List.flatMap_cons,List.length_append,hf,fO f k hf xs,List.length_cons,Nat.add_mul];omega
theorem fJ {α:Type} (d:α) (f:α→List Dt) (k:Nat) (hf:∀ x,(f x).length=k) (l:List α) (q:Nat) (hq:q<l.length):el k q (l.flatMap f)=f (l.getD q d):=by
 have e:l=l.take q++(l.getD q d::l.drop (q+1)):=by
  have:l.getD q d=l[q]:=by simp[hq]
  rw[this,List.getElem_cons_drop,List.take_append_drop]
 have hl:((l.take q).flatMap f).length=q*k:=by rw[fO f k hf,List.length_take];congr 1;omega
 have e2:l.flatMap f=(l.take q).flatMap f++(f (l.getD q d)++(l.drop (q+1)).flatMap f):=by
  conv=>lhs;rw[e]
  rw[List.flatMap_append,List.flatMap_cons]
 rw[e2];exact qk hl (hf _)
def Ans (sh:List Sh) (A:List Dt) (W:World) (e:Ending) (w':World):Prop:=∃ c F,e=.returned (.agg c.toArray)∧Rep w' false sh F A c∧F.Nodup∧(∀ b∈F,W.heap.size≤b)∧Bel W w'
def fe (sh:List Sh) (A:Dt) (W:World) (e:Ending) (w':World):Prop:=∃ v F,e=.returned v∧Rep w' false sh F [A] [v]∧F.Nodup∧(∀ b∈F,W.heap.size≤b)∧Bel W w'
def cO:List Sh→Bool
 |[]=>true
 |.row _ _::_=>false
 |.i::ss=>cO ss
 |.b::ss=>cO ss
 |.s::ss=>cO ss
theorem Raw.flat {w:World} {ss:List Sh} {ds:List Dt} {cs:List Value} (h:Raw w ss ds cs):cO ss=true→∀ w' tt,Rep w' tt ss [] ds cs:=by
 induction h with
 |nil=>intro _ _ _;exact .nil
 |i n h ih=>intro hf w' tt;rw[cO]at hf;exact .i n (ih hf w' tt)
 |b n h ih=>intro hf w' tt;rw[cO]at hf;exact .b n (ih hf w' tt)
 |s n h ih=>intro hf w' tt;rw[cO]at hf;exact .s n (ih hf w' tt)
 |emp t sh a c h ih=>intro hf;rw[cO]at hf;cases hf
 |row t sh p o n c vs es hp hn hr he h ih1 ih=>intro hf;rw[cO]at hf;cases hf
theorem jl:∀ (a b:List Sh),cO (a++b)=(cO a&&cO b)
 |[],b=>by simp[cO]
 |.row t sh::ss,b=>by rw[List.cons_append,cO,cO];rfl
 |.i::ss,b=>by rw[List.cons_append,cO,cO,jl ss b]
 |.b::ss,b=>by rw[List.cons_append,cO,cO,jl ss b]
 |.s::ss,b=>by rw[List.cons_append,cO,cO,jl ss b]
theorem ni {sh:List Sh} (h:cO sh=true):∀ n,cO (bP n sh)=true
 |0=>by rw[dj,cO]
 |n+1=>by rw[cR,jl,h,ni h n];rfl
def E9 (W:World) (lo:Nat) (e:TypeId) (v:Value):Prop:=v=.slice none 0 0∨∃ g,v=.slice (some ⟨g,0,none⟩) 0 0∧lo≤g∧W.heap[g]? =some (.cells #[] e (0,0))
theorem E9.owns {W:World} {lo:Nat} {e:TypeId} {v:Value} (h:E9 W lo e v) (size:Nat):W.ownsRow lo e size v 0 []:=by
 rcases h with rfl|⟨g,rfl,hl,hg⟩
 ·exact⟨by simp,Or.inl ⟨rfl,rfl⟩⟩
 ·exact⟨by simp,Or.inr ⟨g,0,#[],rfl,hl,hg,zE,by decide,by simp,by simp⟩⟩
theorem i6 {P:Program} (lo:Nat) (t ty e t0:TypeId) (size bytes:Nat) (z:Value) (ht:P.underlying t=some (.slice e)) (hinf:(P.info? e).map (fun i=>(i.zero,i.size,i.bytes))=some (some z,size,bytes)) (hzs:z.cells.size=size) (s5:0<size) (hb:bytes≤1000)
  (sh:List Sh) (hk:sh.length=size) (BJ:cO sh=true) (W:World) (v0:Value) (BY:E9 W lo e v0) (eN:lo≤W.heap.size) (n:Nat) (es:List Dt) (v:Value) (h:Raw W [.row t0 sh] [.row n es] [v]) (hn:n≤4194304):
  ∃ v' W' xs,(Builtin.append_ #[t,t] ty #[v0,v]).run P W=.ok v' W'∧Gr W' lo e sh v' n [] es xs∧Bel W W':=by
 obtain⟨i,hi,ei⟩:=Option.map_eq_some_iff.1 hinf;simp only[Prod.mk.injEq]at ei;obtain⟨hz,hs,fQ⟩:=ei;by_cases h0:n=0
 ·subst h0;have he0:es=[]:=List.eq_nil_of_length_eq_zero (by obtain⟨_,_,_,q,t,_⟩:=h.typ.c_r;injection q with e1 e2;injection e1 with e3 e4;subst e3;subst e4;have:=t.rows;omega);subst he0;obtain⟨a,c,rfl⟩:=h.aP;have j8:Src P i.size t (.slice a 0 c) 0 [] W:=by
   cases a with
   |none=>exact Src.ofNil W ht c
   |some ad=>exact Src.ofSlice W ht ad 0 c [] (by simp) (fun j u h=>by simp at h) (fun u h=>by cases h)
  refine⟨v0,W,[], ?_,⟨by rw[hk];exact BY.owns size,.nil,List.nodup_nil,by simp⟩,zR⟩;rcases BY with rfl|⟨g,rfl,_,_⟩
  ·have h1:=j8.len;have h2:=j8.cells;simp[Builtin.append_,run_underlying ht,sizeOf,typeInfo,hi,h1,h2]
  ·have:=run_append_room_src (P:=P) W t t ty e i ht hi g 0 0 0 (.slice a 0 c) 0 [] j8 (by omega) (fun j h=>by simp at h) (fun j h=>by simp at h);rw[this];rfl
 ·rcases h.slice with⟨e0,_⟩|⟨p,o,c,rfl,hp,eD,vs,hr,hR⟩
  ·exact absurd e0 h0
  have hl:vs.length=n*size:=by rw[hR.len,bq,hk]
  have Ci:n*bytes≤4194304*1000:=Nat.mul_le_mul hn hb;obtain⟨v',W',cg,hU,cN,_⟩:=run_append_own (P:=P) (w:=W) lo t ty e i z size bytes ht hi hz hs fQ hzs s5 v0 0 [] (BY.owns size) ⟨p,o,none⟩ n c vs hl (fun j u hu=>by rw[Addr.add_mid];exact hr j u hu) hR.one (by unfold maxLen;omega) (by rw[Nat.zero_add];omega) eN;rw[Nat.zero_add,List.nil_append]at hU;refine⟨v',W',vs,cg,⟨by rw[hk];exact hU,hR.flat (ni BJ n) W' false,List.nodup_nil,by simp⟩, ?_⟩;rcases BY with rfl|⟨g,rfl,vP,oR⟩
  ·exact⟨cN.os,cN.tape,cN.output,cN.size,fun q hq=>cN.block q hq (by simp[Value.ownBlock])⟩
  ·have hnc:W'.heap[g]? =W.heap[g]? :=by
    have pT:g<W.heap.size:=(Array.getElem?_eq_some_iff.1 oR).1;have JM:=run_append_grow (P:=P) W t ty e i z ht hi hz ⟨g,0,none⟩ 0 0 [] (by simp) (fun j v h=>by simp at h) ⟨p,o,none⟩ n c vs (by rw[hs];exact hl) (fun j u hu=>by rw[Addr.add_mid];exact hr j u hu) (by omega) (by omega) (growslice_fits (by omega) (by rw[Nat.zero_add,fQ];omega));rw[JM]at cg;injection cg with _ hw
    rw[← hw];exact(ah (Below.drew zR) _:Bel W _).block g pT
   refine⟨cN.os,cN.tape,cN.output,cN.size,fun q hq=> ?_⟩;by_cases eq:q=g
   ·subst eq;exact hnc
   ·exact cN.block q hq (by simp[Value.ownBlock,eq])
theorem bg {P:Program} {o:Oper} {a:Act} {W W':World} {v x v':Value} (s y:Operand) (t:TypeId) (jc:o.op=Op.call {callee:=Callee.builtin Builtin.append,args:=#[s,y],argTypes:=#[t,t]}) (hs:a.eval s=v) (hx:a.eval y=x)
  (cg:(Builtin.append_ #[t,t] o.type #[v,x]).run P W=.ok v' W'):(execOp a.eval o).run P W=.ok (.value v') W':=by
 simp[execOp,jc,resolve,invoke,builtin,hs,hx,cg,Result.andThen]
theorem nI {P:Program} (t ty e:TypeId) (size bytes:Nat) (z:Value) (ht:P.underlying t=some (.slice e)) (hinf:(P.info? e).map (fun i=>(i.zero,i.size,i.bytes))=some (some z,size,bytes)) (hzs:z.cells.size=size) (hb:bytes≤1000)
  (sh:List Sh) (hk:sh.length=size) (W:World) {F:List Nat} {n:Nat} {es:List Dt} {v:Value} (h:Rep W false [.row e sh] F [.row n es] [v]) (kY:F.Nodup) (hn:n≤4194304) {F':List Nat} {d:List Dt} {c':List Value} (ad:Addr) (hd:Rep W false sh F' d c') (x7:F'.Nodup) (hdj:∀ b∈F',b ∉ F)
  (j8:∀ j u,c'[j]? =some u→W.cell? (ad.add j)=some u):
  ∃ v' W' F'' row,(Builtin.append_ #[t,t] ty #[v,.slice (some ad) 1 1]).run P W=.ok v' W'∧Rep W' false [.row e sh] F'' [.row (n+1) (es++d)] [v']∧F''.Nodup∧(∀ b∈F'',b∈F∨b∈F'∨b=W.heap.size)∧W.grownBy W' row∧(∀ b,row=some b→b∈F):=by
 obtain⟨i,hi,ei⟩:=Option.map_eq_some_iff.1 hinf;simp only[Prod.mk.injEq]at ei;obtain⟨hz,hs,fQ⟩:=ei;have hc:c'.length=1*i.size:=by rw[hd.len,hk,hs,Nat.one_mul]
 have Ci:(n+1)*bytes≤4194305*1000:=Nat.mul_le_mul (by omega) hb;have Jv:Src P i.size t (.slice (some ad) 1 1) 1 c' W:=Src.ofSlice W ht ad 1 1 c' hc j8 (fun u hu=>hd.raw.one u hu);have bN:=hd.lt;have grow:∀ (base:Option Addr) (cap:Nat) (vs:List Value) (G:List Nat),cap<n+1→vs.length=n*i.size→(Builtin.firstCells i.size n (.slice base n cap)).run P W.drew=.ok vs.toArray W.drew→Rep W false (bP n sh) G es vs→G.Nodup→(∀ b∈G,b∈F)→v=.slice base n cap→
   ∃ v' W' F'' row,(Builtin.append_ #[t,t] ty #[v,.slice (some ad) 1 1]).run P W=.ok v' W'∧Rep W' false [.row e sh] F'' [.row (n+1) (es++d)] [v']∧F''.Nodup∧(∀ b∈F'',b∈F∨b∈F'∨b=W.heap.size)∧W.grownBy W' row∧(∀ b,row=some b→b∈F):=by
  intro base cap vs G GK pd Mi hR hGn pX hv;subst hv;have hr:=run_append_grow_src (P:=P) W t t ty e i z ht hi hz base n cap vs Mi (.slice (some ad) 1 1) 1 c' Jv GK (by omega) (growslice_fits (by omega) (by rw[fQ];omega));have Mq:=grownCap_ge W (n+1) cap e;have hle:=grownCap_le_maxLen W (n+1) cap e (by unfold maxLen;omega);have gM:Bel W (W.drew.alloc (.cells ((vs++c').toArray++Builtin.zeroCells z.cells (grownCap W (n+1) cap e - (n+1))) e)):=ah (Below.drew zR) _;have jg:(vs++c').length=(n+1)*i.size:=by rw[List.length_append,pd,hc,← Nat.add_mul]
  refine⟨_,_,W.heap.size::((G++F')++[]),none,hr, ?_, ?_, ?_,⟨gM.os,gM.tape,gM.output,gM.size,fun k hk _=>gM.block k hk⟩,fun b hb=>by cases hb⟩
  ·refine Rep.row e sh W.heap.size 0 (n+1) (grownCap W (n+1) cap e) e (grownCap W (n+1) cap e*sh.length) (vs++c') (es++d) (G++F') ⟨_,heap_alloc_new W.drew _, ?_⟩ (by omega) (by simp) ⟨by unfold maxLen;omega,Mq⟩ ?_ ?_ .nil
   ·rw[Array.size_append,size_zeroCells,hzs,hk,List.size_toArray,jg,hs,← Nat.add_mul];congr 1;omega
   ·intro j x hx;rw[Nat.zero_add];refine(World.cell?_alloc_at _ _ _ _ rfl).trans ?_;have hj:j<(vs++c').length:=(List.getElem?_eq_some_iff.1 hx).1;rw[Array.getElem?_append_left (by simpa using hj)];simpa using hx
   ·rw[dx];exact(hR.ae gM).app (hd.ae gM)
  ·rw[List.append_nil,List.nodup_cons];refine⟨fun hb=> ?_, ?_⟩
   ·rcases List.mem_append.1 hb with hb|hb
    ·have:=hR.lt _ hb;omega
    ·have:=bN _ hb;omega
   ·rw[List.nodup_append];exact⟨hGn,x7,fun a ha b hb q=>hdj b hb (by rw[← q];exact pX a ha)⟩
  ·intro b hb;rw[List.append_nil]at hb;rcases List.mem_cons.1 hb with rfl|hb
   ·exact Or.inr (Or.inr rfl)
   ·rcases List.mem_append.1 hb with hb|hb
    ·exact Or.inl (pX b hb)
    ·exact Or.inr (Or.inl hb)
 rcases h.slice with⟨_,rfl,rfl,rfl,a,rfl⟩|⟨p,o,c,u,m,G,rfl,rfl,eD,ho,ld,_,vs,hr,hR⟩
 ·refine grow a 0 [] [] (by omega) (by simp) ?_ .nil List.nodup_nil (by simp) rfl;cases a with
  |none=>exact run_firstCells_none W.drew i.size 0 0 0
  |some ad2=>exact run_firstCells_some W.drew i.size 0 ad2 0 0 [] (by simp) (fun j u h=>by simp at h)
 ·have pd:vs.length=n*i.size:=by rw[hR.len,bq,hk,hs]
  by_cases hroom:n+1≤c
  ·have Hb:o+(n+1)*i.size≤m:=by
    have h1:=Nat.mul_le_mul_right i.size hroom;have h2:=eD.2.2;rw[hk,← hs]at h2;omega
   have jS:(n+1)*i.size=n*i.size+i.size:=by rw[Nat.add_mul,Nat.one_mul]
   have kh:=run_append_room_src (P:=P) W t t ty e i ht hi p o n c (.slice (some ad) 1 1) 1 c' Jv hroom (fun j hj=>by
    obtain⟨x,hx⟩:=ho.cell (o+n*i.size+j) (by omega);rw[hx];rfl) (fun j hj=>ho.frozen _)
   rw[List.nodup_cons]at kY;have hm:Marks (fun b=>b=p) W (W.setCells p (o+n*i.size) c'):=aN (S:=fun b=>b=p) rfl _ _ _;refine⟨_,_,p::((G++F')++[]),some p,kh, ?_, ?_, ?_,⟨hm.os,hm.tape,hm.output,hm.size,fun k hk iM=>hm.block k hk (fun q=>iM (by rw[q]))⟩,fun b hb=>by injection hb with hb;rw[← hb];simp⟩
   ·refine Rep.row e sh p o (n+1) c u m (vs++c') (es++d) (G++F') (dE _ _ _ ho) eD.2.2 (by simp) ⟨by unfold maxLen;omega,hroom⟩ (lz ?_ ?_) ?_ .nil
    ·exact World.rangeAt_setCells_apart hr _ _ _ (Or.inr (Or.inl (by omega)))
    ·rw[pd];exact World.rangeAt_setCells_same _ _ _ _ (aR ho _ _ (by omega))
    ·rw[dx];refine(hR.aY hm fun b hb q=>kY.1 (by rw[← q];exact hb)).app (hd.aY hm fun b hb q=>hdj b hb (by rw[q];simp))
   ·rw[List.append_nil,List.nodup_cons];refine⟨fun hb=> ?_, ?_⟩
    ·rcases List.mem_append.1 hb with hb|hb
     ·exact kY.1 hb
     ·exact hdj _ hb (by simp)
    ·rw[List.nodup_append];exact⟨kY.2,x7,fun a ha b hb q=>hdj b hb (by rw[← q];exact List.mem_cons_of_mem _ ha)⟩
   ·intro b hb;rw[List.append_nil]at hb;rcases List.mem_cons.1 hb with rfl|hb
    ·exact Or.inl (by simp)
    ·rcases List.mem_append.1 hb with hb|hb
     ·exact Or.inl (List.mem_cons_of_mem _ hb)
     ·exact Or.inr (Or.inl hb)
  ·rw[List.nodup_cons]at kY;exact grow (some ⟨p,o,none⟩) c vs G (by omega) pd (run_firstCells_some W.drew i.size n ⟨p,o,none⟩ n c vs pd (fun j x hx=>by rw[Addr.add_mid];simpa using hr j x hx)) hR kY.2 (fun b hb=>List.mem_cons_of_mem _ hb) rfl
structure aK (W:World) (p:Nat) (u:TypeId) (cs:List Value):Prop where
 own:aL W p u cs.length
 at_:W.rangeAt p 0 cs
theorem aK.ae {W W':World} {p:Nat} {u:TypeId} {cs:List Value} (h:aK W p u cs) (hb:Bel W W'):aK W' p u cs:=⟨h.own.ae hb,aA h.at_ h.own.lt hb⟩
theorem aK.new (W:World) (cs:List Value) (u:TypeId) (p:Nat) (hp:p=W.heap.size):aK (W.alloc (.cells cs.toArray u)) p u cs:=
 ⟨aL.er W _ _ _ _ (by simp) hp,(aD.new W cs.toArray u p hp).at_⟩
theorem aK.get {W:World} {p:Nat} {u:TypeId} {cs:List Value} (h:aK W p u cs) (j:Nat) (v:Value) (hv:cs[j]? =some v):W.cell? ⟨p,j,none⟩=some v:=by
 have:=h.at_ j v hv;rwa [Nat.zero_add]at this
theorem aK.mks {W W':World} {S:Nat→Prop} {p:Nat} {u:TypeId} {cs:List Value} (h:aK W p u cs) (hb:Marks S W W') (hp:¬ S p):aK W' p u cs:=
 ⟨hb.own _ _ _ h.own,cM h.at_ fun _ _=>hb.cell h.own.lt hp _⟩
theorem aK.set {W:World} {p:Nat} {u:TypeId} {cs:List Value} (h:aK W p u cs) (j:Nat) (x:Value) (hj:j<cs.length):aK (W.setCell ⟨p,j,none⟩ x) p u (cs.set j x):=by
 refine⟨by rw[List.length_set];exact h.own.setCell _ _,fun i v hv=> ?_⟩;rw[Nat.zero_add];rw[List.getElem?_set]at hv;by_cases e:j=i
 ·subst e;rw[if_pos rfl,if_pos hj]at hv;injection hv with hv;subst hv
  exact qZ h.own _ hj _
 ·rw[if_neg e]at hv;exact(l4 _ _ _ _ _ _ (Or.inr (fun q=>e q.symm))).trans (h.get i v hv)
theorem aK.other {W:World} {p q:Nat} {u:TypeId} {cs:List Value} (h:aK W p u cs) (hn:p≠q) (j:Nat) (x:Value):aK (W.setCell ⟨q,j,none⟩ x) p u cs:=
 h.mks (Marks.sc (S:=fun b=>b=q) W rfl j x) hn
theorem vD {A B:List Nat} {m:Nat} (ha:A.Nodup) (hb:B.Nodup) (h1:∀ x∈A,x<m) (h2:∀ x∈B,m≤x):(A++B).Nodup:=by
 rw[List.nodup_append];exact⟨ha,hb,fun a ha b hb e=>by have:=h1 a ha;have:=h2 b hb;omega⟩
theorem CV {A B:List Nat} {m:Nat} (h1:∀ x∈A,m≤x) (h2:∀ x∈B,m≤x):∀ x∈A++B,m≤x:=fun x hx=>(List.mem_append.1 hx).elim (h1 x) (h2 x)
set_option maxHeartbeats 40000000
theorem jz (n lo hi:Int) (w:World):
  Calls Try.prog 57 #[.int .i64 n,.int .i64 lo,.int .i64 hi] w fun e w'=>e=.returned (.bool (decide (lo≤n)&&decide (n≤hi)))∧w=w':=by
 by_cases h:lo≤n
 all_goals
  go_enter Try.func57,Try.ntmps57
  go_wp2;go_ret;exact⟨Pl.aB (by rw[Bool.eq_iff_iff];simp;try omega),rfl⟩
theorem Try.l5:Try.prog.underlying 22=some (.slice 5):=by kernel_rfl
theorem iZ {P:Program} {t:TypeId} {z:Value} {n b:Nat} (h:(P.info? t).map (fun i=>(i.zero,i.size,i.bytes))=some (some z,n,b)):∃ i,P.info? t=some i∧i.zero=some z∧i.size=n∧i.bytes=b:=by
 cases hi:P.info? t with
 |none=>rw[hi]at h;cases h
 |some i=>rw[hi]at h;simp only[Option.map_some,Option.some.injEq,Prod.mk.injEq]at h;exact⟨i,rfl,h.1,h.2.1,h.2.2⟩
end Go.Proofs.Ytmgibmmpopoboaa
