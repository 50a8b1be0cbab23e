import Derived.Laws.IdiomStrings
import Derived.Laws.BytesString
import Derived.Deep.RegionWith
import Derived.Deep.MidRow
import Derived.StillTailTactics
import Derived.WalkSpells
import Derived.WalkLawsBesides
import Derived.Deep.DeepCutAuto
import Derived.BigQuiet
import Derived.Test.YtopjjknojnfhmaaGreatDoorPlain
import Derived.Test.YtopjjknojnfhmaaGreatDoorOwn
namespace Go.Proofs.YtopjjknojnfhmaaGreatDoor
open Go.RowKit Go.Deep
structure Marks (S:Nat→Prop) (w w':World):Prop where
 os:w'.os=w.os
 tape:w'.tape=w.tape
 output:w'.output=w.output
 size:w.heap.size≤w'.heap.size
 block:∀ p,p<w.heap.size→¬ S p→w'.heap[p]? =w.heap[p]?
 own:∀ b t m,aV w b t m→aV w' b t m
theorem Marks.refl (S:Nat→Prop) (w:World):Marks S w w:=⟨rfl,rfl,rfl,zE,fun _ _ _=>rfl,fun _ _ _ h=>h⟩
theorem Marks.trans {S:Nat→Prop} {a b c:World} (h:Marks S a b) (k:Marks S b c):Marks S a c:=
 ⟨k.os.trans h.os,k.tape.trans h.tape,k.output.trans h.output,Nat.le_trans h.size k.size,fun p hp hS=>(k.block p (zL hp h.size) hS).trans (h.block p hp hS),fun b t m ho=>k.own b t m (h.own b t m ho)⟩
theorem Marks.mono {S S':Nat→Prop} {w w':World} (h:Marks S w w') (hs:∀ p,S p→S' p):Marks S' w w':=
 ⟨h.os,h.tape,h.output,h.size,fun p hp hn=>h.block p hp (fun e=>hn (hs p e)),h.own⟩
theorem Marks.aG (S:Nat→Prop) {w w':World} (h:Bel w w'):Marks S w w':=
 ⟨h.os,h.tape,h.output,h.size,fun p hp _=>h.block p hp,fun _ _ _ ho=>ho.later h⟩
theorem Marks.sc {S:Nat→Prop} (w:World) {b:Nat} (hS:S b) (o:Nat) (v:Value):Marks S w (w.setCell ⟨b,o,none⟩ v):=by
 refine⟨rfl,rfl,rfl,by simp[World.setCell],fun p _ hn=>Below.heap_setCell w ⟨b,o,none⟩ v p (fun e=>hn (by rw[show p=b from e];exact hS)),fun b' t' m' h'=> ?_⟩;by_cases e:b'=b
 ·subst e;exact h'.setCell o v
 ·exact h'.vD e o v
theorem Marks.below {S:Nat→Prop} {a w w':World} (h:Marks S w w') (hs:∀ p,S p→a.heap.size≤p) (ha:Bel a w):Bel a w':=
 ⟨h.os.trans ha.os,h.tape.trans ha.tape,h.output.trans ha.output,Nat.le_trans ha.size h.size,fun p hp=>(h.block p (zL hp ha.size) (fun e=>by have:=hs p e;omega)).trans (ha.block p hp)⟩
theorem Marks.cell {S:Nat→Prop} {w w':World} (h:Marks S w w') {b:Nat} (hb:b<w.heap.size) (hn:¬ S b) (o:Nat):w'.cell? ⟨b,o,none⟩=w.cell? ⟨b,o,none⟩:=
 World.cell?_of_block (w:=w) (h.block b hb hn)
structure aS (W:World) (p:Nat) (cs:List Value):Prop where
 lt:p<W.heap.size
 at_:W.rangeAt p 0 cs
theorem aS.later {W W':World} {p:Nat} {cs:List Value} (h:aS W p cs) (hb:Bel W W'):aS W' p cs:=
 ⟨zL h.lt hb.size,fun j v hv=>(hb.cell (p:=⟨p,0+j,none⟩) h.lt).trans (h.at_ j v hv)⟩
theorem aS.new (W:World) (cs:Array Value) (t:TypeId) (p:Nat) (hp:p=W.heap.size):aS (W.alloc (.cells cs t)) p cs.toList:=by
 subst hp;refine⟨by simp,fun j v hv=> ?_⟩;rw[Nat.zero_add];refine(World.cell?_alloc_at _ _ _ _ rfl).trans ?_;simpa using hv
theorem aS.lf {W:World} {p:Nat} {cs:List Value} (h:aS W p cs) (x:Obj):aS (W.alloc x) p cs:=h.later (ae zR x)
theorem aS.get {W:World} {p:Nat} {cs:List Value} (h:aS W p cs) (j:Nat) (v:Value) (hv:cs[j]? =some v):W.cell? ⟨p,j,none⟩=some v:=by
 have:=h.at_ j v hv;rwa [Nat.zero_add]at this
theorem uh {p:Prop} (h:p):Hid p:=h
inductive Sh where
 |i
 |b
 |s
 |row (t:TypeId) (sh:List Sh)
inductive Dt where
 |i (n:Int)
 |b (x:Bool)
 |s (t:ByteArray)
 |row (n:Nat) (es:List Dt)
def wtL:List Dt→Nat
 |[]=>0
 |.row n es::ds=>n+wtL es+wtL ds
 |.i _::ds=>wtL ds
 |.b _::ds=>wtL ds
 |.s t::ds=>t.size+wtL ds
theorem ka:∀ (a b:List Dt),wtL (a++b)=wtL a+wtL b
 |[],b=>by simp[wtL]
 |.row n es::ds,b=>by rw[List.cons_append,wtL,wtL,ka ds b];omega
 |.i _::ds,b=>by rw[List.cons_append,wtL,wtL,ka ds b]
 |.b _::ds,b=>by rw[List.cons_append,wtL,wtL,ka ds b]
 |.s _::ds,b=>by rw[List.cons_append,wtL,wtL,ka ds b];omega
def bf (n:Nat) (sh:List Sh):List Sh:=(List.replicate n sh).flatten
theorem eK (sh:List Sh):bf 0 sh=[]:=rfl
theorem bW (n:Nat) (sh:List Sh):bf (n+1) sh=sh++bf n sh:=by simp[bf,List.replicate_succ]
theorem gn (a b:Nat) (sh:List Sh):bf (a+b) sh=bf a sh++bf b sh:=by rw[bf,bf,bf,← List.flatten_append,List.replicate_append_replicate]
theorem iv (n:Nat) (sh:List Sh):bf (n+1) sh=bf n sh++sh:=by rw[gn n 1,bW 0,eK,List.append_nil]
theorem bj (n:Nat) (sh:List Sh):(bf n sh).length=n*sh.length:=by
 induction n with
 |zero=>simp[bf]
 |succ n ih=>rw[iv,List.length_append,ih,Nat.succ_mul]
theorem iy {n q:Nat} (h:q<n) (sh:List Sh):bf n sh=bf q sh++(sh++bf (n - q - 1) sh):=by
 rw[← bW,← gn];congr 1;omega
def el (k q:Nat) (es:List Dt):List Dt:=(es.drop (q*k)).take k
theorem xA {A e B:List Dt} {k q:Nat} (hA:A.length=q*k) (he:e.length=k):el k q (A++(e++B))=e:=by
 rw[el,List.drop_append_of_le_length (by omega),List.drop_of_length_le (by omega),List.nil_append,List.take_append_of_le_length (by omega),List.take_of_length_le (by omega)]
inductive Typ:List Sh→List Dt→Prop
 |nil:Typ [] []
 |i (n:Int) {ss:List Sh} {ds:List Dt} (h:Typ ss ds):Typ (.i::ss) (.i n::ds)
 |b (x:Bool) {ss:List Sh} {ds:List Dt} (h:Typ ss ds):Typ (.b::ss) (.b x::ds)
 |s (t:ByteArray) {ss:List Sh} {ds:List Dt} (h:Typ ss ds):Typ (.s::ss) (.s t::ds)
 |row (t:TypeId) (sh:List Sh) (n:Nat) (es:List Dt) (he:Typ (bf n sh) es) {ss:List Sh} {ds:List Dt} (h:Typ ss ds):Typ (.row t sh::ss) (.row n es::ds)
theorem Typ.len {ss:List Sh} {ds:List Dt} (h:Typ ss ds):ds.length=ss.length:=by
 induction h with
 |nil=>rfl
 |i n h ih=>simp[ih]
 |b n h ih=>simp[ih]
 |s n h ih=>simp[ih]
 |row t sh n es he h _ ih=>simp[ih]
theorem Typ.cut:∀ (s1:List Sh) {s2:List Sh} {ds:List Dt},Typ (s1++s2) ds→∃ d1 d2,ds=d1++d2∧Typ s1 d1∧Typ s2 d2
 |[],_,ds,h=>⟨[],ds,rfl,.nil,h⟩
 |_::s1,_,_,h=>by
  rw[List.cons_append]at h;cases h with
  |i n h=>obtain⟨d1,d2,rfl,h1,h2⟩:=Typ.cut s1 h;exact⟨_::d1,d2,rfl,.i n h1,h2⟩
  |b n h=>obtain⟨d1,d2,rfl,h1,h2⟩:=Typ.cut s1 h;exact⟨_::d1,d2,rfl,.b n h1,h2⟩
  |s n h=>obtain⟨d1,d2,rfl,h1,h2⟩:=Typ.cut s1 h;exact⟨_::d1,d2,rfl,.s n h1,h2⟩
  |row t sh n es he h=>obtain⟨d1,d2,rfl,h1,h2⟩:=Typ.cut s1 h;exact⟨_::d1,d2,rfl,.row t sh n es he h1,h2⟩
theorem Typ.rows {n:Nat} {sh:List Sh} {es:List Dt} (h:Typ (bf n sh) es):es.length=n*sh.length:=by rw[h.len,bj]
theorem dA {w:World} {b o:Nat} {x y:List Value} (h:w.rangeAt b o (x++y)):w.rangeAt b o x∧w.rangeAt b (o+x.length) y:=by
 refine⟨fun j v hv=>h j v ?_,fun j v hv=> ?_⟩
 ·rw[List.getElem?_append_left ((List.getElem?_eq_some_iff.1 hv).1)];exact hv
 ·have:=h (x.length+j) v (by rw[List.getElem?_append_right (by omega),show x.length+j - x.length=j by omega];exact hv);rwa [← Nat.add_assoc]at this
theorem kJ {w:World} {b o:Nat} {x y:List Value} (h1:w.rangeAt b o x) (h2:w.rangeAt b (o+x.length) y):w.rangeAt b o (x++y):=fun j v hv=>by
 by_cases hj:j<x.length
 ·exact h1 j v (by rwa [List.getElem?_append_left hj]at hv)
 ·have:=h2 (j - x.length) v (by rwa [List.getElem?_append_right (by omega)]at hv);rwa [show o+x.length+(j - x.length)=o+j by omega]at this
theorem cO {w w':World} {b o:Nat} {x:List Value} (h:w.rangeAt b o x) (hc:∀ j,j<x.length→w'.cell? ⟨b,o+j,none⟩=w.cell? ⟨b,o+j,none⟩):w'.rangeAt b o x:=
 fun j v hv=>(hc j (List.getElem?_eq_some_iff.1 hv).1).trans (h j v hv)
theorem aB {w w':World} {b o:Nat} {x:List Value} (h:w.rangeAt b o x) (hl:b<w.heap.size) (hb:Bel w w'):w'.rangeAt b o x:=
 cO h fun j _=>hb.cell (p:=⟨b,o+j,none⟩) hl
theorem aE {w:World} {b o:Nat} {x:List Value} (h:w.rangeAt b o x) (j:Nat) (v:Value) (hv:x[j]? =some v):w.cell? ⟨b,o+j,none⟩=some v:=h j v hv
inductive Raw (w:World):List Sh→List Dt→List Value→Prop
 |nil:Raw w [] [] []
 |i (n:Int) {ss:List Sh} {ds:List Dt} {cs:List Value} (h:Raw w ss ds cs):Raw w (.i::ss) (.i n::ds) (.int .i64 n::cs)
 |b (x:Bool) {ss:List Sh} {ds:List Dt} {cs:List Value} (h:Raw w ss ds cs):Raw w (.b::ss) (.b x::ds) (.bool x::cs)
 |s (t:ByteArray) {ss:List Sh} {ds:List Dt} {cs:List Value} (h:Raw w ss ds cs):Raw w (.s::ss) (.s t::ds) (.string t::cs)
 |emp (t:TypeId) (sh:List Sh) (a:Option Addr) (c:Nat) {ss:List Sh} {ds:List Dt} {cs:List Value} (h:Raw w ss ds cs):Raw w (.row t sh::ss) (.row 0 []::ds) (.slice a 0 c::cs)
 |row (t:TypeId) (sh:List Sh) (p o n c:Nat) (vs:List Value) (es:List Dt) (hp:p<w.heap.size) (hn:n≤maxLen∧n≤c) (hr:w.rangeAt p o vs) (he:Raw w (bf n sh) es vs) {ss:List Sh} {ds:List Dt} {cs:List Value} (h:Raw w ss ds cs):Raw w (.row t sh::ss) (.row n es::ds) (.slice (some ⟨p,o,none⟩) n c::cs)
theorem Raw.typ {w:World} {ss:List Sh} {ds:List Dt} {cs:List Value} (h:Raw w ss ds cs):Typ ss ds:=by
 induction h with
 |nil=>exact .nil
 |i n h ih=>exact .i n ih
 |b n h ih=>exact .b n ih
 |s n h ih=>exact .s n ih
 |emp t sh a c h ih=>exact .row t sh 0 [] .nil ih
 |row t sh p o n c vs es hp hn hr he h ih1 ih=>exact .row t sh n es ih1 ih
theorem Raw.len {w:World} {ss:List Sh} {ds:List Dt} {cs:List Value} (h:Raw w ss ds cs):cs.length=ss.length:=by
 induction h with
 |nil=>rfl
 |i n h ih=>simp[ih]
 |b n h ih=>simp[ih]
 |s n h ih=>simp[ih]
 |emp t sh a c h ih=>simp[ih]
 |row t sh p o n c vs es hp hn hr he h _ ih=>simp[ih]
theorem Raw.later {w w':World} {ss:List Sh} {ds:List Dt} {cs:List Value} (h:Raw w ss ds cs) (hb:Bel w w'):Raw w' ss ds cs:=by
 induction h with
 |nil=>exact .nil
 |i n h ih=>exact .i n ih
 |b n h ih=>exact .b n ih
 |s n h ih=>exact .s n ih
 |emp t sh a c h ih=>exact .emp t sh a c ih
 |row t sh p o n c vs es hp hn hr he h ih1 ih=>exact .row t sh p o n c vs es (zL hp hb.size) hn (aB hr hp hb) ih1 ih
theorem Raw.app {w:World} {ss:List Sh} {ds:List Dt} {cs:List Value} (h:Raw w ss ds cs) {ss':List Sh} {ds':List Dt} {qO:List Value} (h':Raw w ss' ds' qO):Raw w (ss++ss') (ds++ds') (cs++qO):=by
 induction h with
 |nil=>exact h'
 |i n h ih=>exact .i n ih
 |b n h ih=>exact .b n ih
 |s n h ih=>exact .s n ih
 |emp t sh a c h ih=>exact .emp t sh a c ih
 |row t sh p o n c vs es hp hn hr he h ih1 ih=>exact .row t sh p o n c vs es hp hn hr he ih
theorem Raw.cut {w:World}:∀ (s1:List Sh) {s2:List Sh} {ds:List Dt} {cs:List Value},Raw w (s1++s2) ds cs→∃ d1 d2 c1 c2,ds=d1++d2∧cs=c1++c2∧Raw w s1 d1 c1∧Raw w s2 d2 c2
 |[],_,ds,cs,h=>⟨[],ds,[],cs,rfl,rfl,.nil,h⟩
 |_::s1,_,_,_,h=>by
  rw[List.cons_append]at h;cases h with
  |i n h=>obtain⟨d1,d2,c1,c2,rfl,rfl,h1,h2⟩:=Raw.cut s1 h;exact⟨_::d1,d2,_::c1,c2,rfl,rfl,.i n h1,h2⟩
  |b n h=>obtain⟨d1,d2,c1,c2,rfl,rfl,h1,h2⟩:=Raw.cut s1 h;exact⟨_::d1,d2,_::c1,c2,rfl,rfl,.b n h1,h2⟩
  |s n h=>obtain⟨d1,d2,c1,c2,rfl,rfl,h1,h2⟩:=Raw.cut s1 h;exact⟨_::d1,d2,_::c1,c2,rfl,rfl,.s n h1,h2⟩
  |emp t sh a c h=>obtain⟨d1,d2,c1,c2,rfl,rfl,h1,h2⟩:=Raw.cut s1 h;exact⟨_::d1,d2,_::c1,c2,rfl,rfl,.emp t sh a c h1,h2⟩
  |row t sh p o n c vs es hp hn hr he h=>obtain⟨d1,d2,c1,c2,rfl,rfl,h1,h2⟩:=Raw.cut s1 h;exact⟨_::d1,d2,_::c1,c2,rfl,rfl,.row t sh p o n c vs es hp hn hr he h1,h2⟩
theorem Raw.el {w:World} {n q:Nat} {sh:List Sh} {es:List Dt} {vs:List Value} (h:Raw w (bf n sh) es vs) (hq:q<n) {p o:Nat} (hr:w.rangeAt p o vs):∃ ve,Raw w sh (Go.Proofs.YtopjjknojnfhmaaGreatDoor.el sh.length q es) ve∧w.rangeAt p (o+q*sh.length) ve:=by
 rw[iy hq]at h;obtain⟨d1,d2,c1,c2,rfl,rfl,h1,h2⟩:=Raw.cut _ h;obtain⟨d3,d4,c3,c4,rfl,rfl,h3,h4⟩:=Raw.cut _ h2;rw[xA (by rw[h1.typ.len,bj]) h3.typ.len];refine⟨c3,h3, ?_⟩;have:=(dA (dA hr).2).1;rwa [h1.len,bj]at this
inductive Rep (w:World) (tt:Bool):List Sh→List Nat→List Dt→List Value→Prop
 |nil:Rep w tt [] [] [] []
 |i (n:Int) {ss:List Sh} {F:List Nat} {ds:List Dt} {cs:List Value} (h:Rep w tt ss F ds cs):Rep w tt (.i::ss) F (.i n::ds) (.int .i64 n::cs)
 |b (x:Bool) {ss:List Sh} {F:List Nat} {ds:List Dt} {cs:List Value} (h:Rep w tt ss F ds cs):Rep w tt (.b::ss) F (.b x::ds) (.bool x::cs)
 |s (t:ByteArray) {ss:List Sh} {F:List Nat} {ds:List Dt} {cs:List Value} (h:Rep w tt ss F ds cs):Rep w tt (.s::ss) F (.s t::ds) (.string t::cs)
 |emp (t:TypeId) (sh:List Sh) (a:Option Addr) (ht:tt=false) {ss:List Sh} {F:List Nat} {ds:List Dt} {cs:List Value} (h:Rep w tt ss F ds cs):Rep w tt (.row t sh::ss) F (.row 0 []::ds) (.slice a 0 0::cs)
 |row (t:TypeId) (sh:List Sh) (p o n c:Nat) (u:TypeId) (m:Nat) (vs:List Value) (es:List Dt) (G:List Nat) (ho:aV w p u m) (hm:o+c*sh.length≤m) (ht:tt=true→u=t∧m=n*sh.length∧o=0∧c=n) (hn:n≤maxLen∧n≤c) (hr:w.rangeAt p o vs) (he:Rep w tt (bf n sh) G es vs) {ss:List Sh} {F:List Nat} {ds:List Dt} {cs:List Value} (h:Rep w tt ss F ds cs):Rep w tt (.row t sh::ss) (p::(G++F)) (.row n es::ds) (.slice (some ⟨p,o,none⟩) n c::cs)
theorem Rep.raw {w:World} {tt:Bool} {ss:List Sh} {F:List Nat} {ds:List Dt} {cs:List Value} (h:Rep w tt ss F ds cs):Raw w ss ds cs:=by
 induction h with
 |nil=>exact .nil
 |i n h ih=>exact .i n ih
 |b n h ih=>exact .b n ih
 |s n h ih=>exact .s n ih
 |emp t sh a ht h ih=>exact .emp t sh a 0 ih
 |row t sh p o n c u m vs es G ho hm ht hn hr he h ih1 ih=>exact .row t sh p o n c vs es ho.lt hn hr ih1 ih
theorem Rep.lt {w:World} {tt:Bool} {ss:List Sh} {F:List Nat} {ds:List Dt} {cs:List Value} (h:Rep w tt ss F ds cs):∀ p∈F,p<w.heap.size:=by
 induction h with
 |nil=>intro p hp;cases hp
 |i n h ih=>exact ih
 |b n h ih=>exact ih
 |s n h ih=>exact ih
 |emp t sh a ht h ih=>exact ih
 |row t sh p o n c u m vs es G ho hm ht hn hr he h ih1 ih=>
  intro q hq;rcases List.mem_cons.1 hq with rfl|hq
  ·exact ho.lt
  ·rcases List.mem_append.1 hq with hq|hq
   ·exact ih1 q hq
   ·exact ih q hq
theorem Rep.bo {w w':World} {tt:Bool} {ss:List Sh} {F:List Nat} {ds:List Dt} {cs:List Value} {S:Nat→Prop} (h:Rep w tt ss F ds cs) (hb:Marks S w w'):(∀ p∈F,¬ S p)→Rep w' tt ss F ds cs:=by
 induction h with
 |nil=>intro _;exact .nil
 |i n h ih=>intro hS;exact .i n (ih hS)
 |b n h ih=>intro hS;exact .b n (ih hS)
 |s n h ih=>intro hS;exact .s n (ih hS)
 |emp t sh a ht h ih=>intro hS;exact .emp t sh a ht (ih hS)
 |row t sh p o n c u m vs es G ho hm ht hn hr he h ih1 ih=>
  intro hS;refine .row t sh p o n c u m vs es G (hb.own _ _ _ ho) hm ht hn (cO hr fun j _=> ?_) (ih1 fun q hq=>hS q (by simp[hq])) (ih fun q hq=>hS q (by simp[hq]));exact hb.cell ho.lt (hS p (by simp)) _
theorem Rep.later {w w':World} {tt:Bool} {ss:List Sh} {F:List Nat} {ds:List Dt} {cs:List Value} (h:Rep w tt ss F ds cs) (hb:Bel w w'):Rep w' tt ss F ds cs:=
 h.bo (Marks.aG (fun _=>False) hb) fun _ _ e=>e
theorem Rep.app {w:World} {tt:Bool} {ss:List Sh} {F:List Nat} {ds:List Dt} {cs:List Value} (h:Rep w tt ss F ds cs) {ss':List Sh} {F':List Nat} {ds':List Dt} {qO:List Value} (h':Rep w tt ss' F' ds' qO):Rep w tt (ss++ss') (F++F') (ds++ds') (cs++qO):=by
 induction h with
 |nil=>exact h'
 |i n h ih=>exact .i n ih
 |b n h ih=>exact .b n ih
 |s n h ih=>exact .s n ih
 |emp t sh a ht h ih=>exact .emp t sh a ht ih
 |row t sh p o n c u m vs es G ho hm ht hn hr he h ih1 ih=>rw[List.cons_append,List.cons_append,List.cons_append,List.cons_append,List.append_assoc];exact .row t sh p o n c u m vs es G ho hm ht hn hr he ih
theorem Rep.cut {w:World} {tt:Bool}:∀ (s1:List Sh) {s2:List Sh} {F:List Nat} {ds:List Dt} {cs:List Value},Rep w tt (s1++s2) F ds cs→∃ F1 F2 d1 d2 c1 c2,F=F1++F2∧ds=d1++d2∧cs=c1++c2∧Rep w tt s1 F1 d1 c1∧Rep w tt s2 F2 d2 c2
 |[],_,F,ds,cs,h=>⟨[],F,[],ds,[],cs,rfl,rfl,rfl,.nil,h⟩
 |_::s1,_,_,_,_,h=>by
  rw[List.cons_append]at h;cases h with
  |i n h=>obtain⟨F1,F2,d1,d2,c1,c2,rfl,rfl,rfl,h1,h2⟩:=Rep.cut s1 h;exact⟨F1,F2,_::d1,d2,_::c1,c2,rfl,rfl,rfl,.i n h1,h2⟩
  |b n h=>obtain⟨F1,F2,d1,d2,c1,c2,rfl,rfl,rfl,h1,h2⟩:=Rep.cut s1 h;exact⟨F1,F2,_::d1,d2,_::c1,c2,rfl,rfl,rfl,.b n h1,h2⟩
  |s n h=>obtain⟨F1,F2,d1,d2,c1,c2,rfl,rfl,rfl,h1,h2⟩:=Rep.cut s1 h;exact⟨F1,F2,_::d1,d2,_::c1,c2,rfl,rfl,rfl,.s n h1,h2⟩
  |emp t sh a ht h=>obtain⟨F1,F2,d1,d2,c1,c2,rfl,rfl,rfl,h1,h2⟩:=Rep.cut s1 h;exact⟨F1,F2,_::d1,d2,_::c1,c2,rfl,rfl,rfl,.emp t sh a ht h1,h2⟩
  |row t sh p o n c u m vs es G ho hm ht hn hr he h=>
   obtain⟨F1,F2,d1,d2,c1,c2,rfl,rfl,rfl,h1,h2⟩:=Rep.cut s1 h;exact⟨p::(G++F1),F2,_::d1,d2,_::c1,c2,by simp,rfl,rfl,.row t sh p o n c u m vs es G ho hm ht hn hr he h1,h2⟩
theorem Rep.len {w:World} {tt:Bool} {ss:List Sh} {F:List Nat} {ds:List Dt} {cs:List Value} (h:Rep w tt ss F ds cs):cs.length=ss.length:=h.raw.len
theorem Raw.one {w:World} {ss:List Sh} {ds:List Dt} {cs:List Value} (h:Raw w ss ds cs):∀ v∈cs,v.oneCell'=true:=by
 induction h with
 |nil=>intro v hv;cases hv
 |i n h ih=>intro v hv;rcases List.mem_cons.1 hv with rfl|hv;rfl;exact ih v hv
 |b n h ih=>intro v hv;rcases List.mem_cons.1 hv with rfl|hv;rfl;exact ih v hv
 |s n h ih=>intro v hv;rcases List.mem_cons.1 hv with rfl|hv;rfl;exact ih v hv
 |emp t sh a c h ih=>intro v hv;rcases List.mem_cons.1 hv with rfl|hv;rfl;exact ih v hv
 |row t sh p o n c vs es hp hn hr he h _ ih=>intro v hv;rcases List.mem_cons.1 hv with rfl|hv;rfl;exact ih v hv
theorem Rep.slice {w:World} {tt:Bool} {t:TypeId} {sh:List Sh} {F:List Nat} {n:Nat} {es:List Dt} {v:Value} (h:Rep w tt [.row t sh] F [.row n es] [v]):
  (tt=false∧n=0∧es=[]∧F=[]∧∃ a,v=.slice a 0 0)∨∃ p o c u m G,v=.slice (some ⟨p,o,none⟩) n c∧F=p::G∧(n≤maxLen∧n≤c∧o+c*sh.length≤m)∧aV w p u m∧o+n*sh.length≤m∧(tt=true→u=t∧m=n*sh.length∧o=0∧c=n)∧∃ vs,w.rangeAt p o vs∧Rep w tt (bf n sh) G es vs:=by
 cases h with
 |emp t sh a ht h=>cases h;exact Or.inl ⟨ht,rfl,rfl,rfl,a,rfl⟩
 |row t sh p o n c u m vs es G ho hm ht hn hr he h=>cases h;exact Or.inr ⟨p,o,c,u,m,G,rfl,by simp,⟨hn.1,hn.2,hm⟩,ho,Nat.le_trans (Nat.add_le_add_left (Nat.mul_le_mul_right _ hn.2) o) hm,ht,vs,hr,he⟩
theorem Raw.slice {w:World} {t:TypeId} {sh:List Sh} {n:Nat} {es:List Dt} {v:Value} (h:Raw w [.row t sh] [.row n es] [v]):
  (n=0∧es=[]∧∃ a c,v=.slice a 0 c)∨∃ p o c,v=.slice (some ⟨p,o,none⟩) n c∧p<w.heap.size∧(n≤maxLen∧n≤c)∧∃ vs,w.rangeAt p o vs∧Raw w (bf n sh) es vs:=by
 cases h with
 |emp t sh a c h=>cases h;exact Or.inl ⟨rfl,rfl,a,c,rfl⟩
 |row t sh p o n c vs es hp hn hr he h=>cases h;exact Or.inr ⟨p,o,c,rfl,hp,hn,vs,hr,he⟩
theorem Raw.bm {w:World} {t:TypeId} {sh:List Sh} {n:Nat} {es:List Dt} {v:Value} (h:Raw w [.row t sh] [.row n es] [v]):∃ a c,v=.slice a n c:=by
 rcases h.slice with⟨rfl,_,a,c,rfl⟩|⟨p,o,c,rfl,_⟩
 ·exact⟨a,c,rfl⟩
 ·exact⟨_,c,rfl⟩
theorem Rep.c_b {w:World} {tt:Bool} {ss:List Sh} {F:List Nat} {n:Bool} {ds:List Dt} {cs:List Value} (h:Rep w tt (.b::ss) F (.b n::ds) cs):∃ x,cs=.bool n::x∧Rep w tt ss F ds x:=by
 cases h with|b n h=>exact⟨_,rfl,h⟩
theorem Rep.c_s {w:World} {tt:Bool} {ss:List Sh} {F:List Nat} {n:ByteArray} {ds:List Dt} {cs:List Value} (h:Rep w tt (.s::ss) F (.s n::ds) cs):∃ x,cs=.string n::x∧Rep w tt ss F ds x:=by
 cases h with|s n h=>exact⟨_,rfl,h⟩
theorem Rep.c_n {w:World} {tt:Bool} {F:List Nat} {cs:List Value} (h:Rep w tt [] F [] cs):cs=[]∧F=[]:=by
 cases h;exact⟨rfl,rfl⟩
theorem Rep.c_r {w:World} {tt:Bool} {t:TypeId} {sh ss:List Sh} {F:List Nat} {n:Nat} {es ds:List Dt} {cs:List Value} (h:Rep w tt (.row t sh::ss) F (.row n es::ds) cs):∃ F0 F1 v x,F=F0++F1∧cs=v::x∧Rep w tt [.row t sh] F0 [.row n es] [v]∧Rep w tt ss F1 ds x:=by
 cases h with
 |emp t sh a ht h=>exact⟨[],_,_,_,rfl,rfl,.emp t sh a ht .nil,h⟩
 |row t sh p o n c u m vs es G ho hm ht hn hr he h=>exact⟨p::(G++[]),_,_,_,by simp,rfl,.row t sh p o n c u m vs es G ho hm ht hn hr he .nil,h⟩
theorem Raw.c_i {w:World} {ss:List Sh} {n:Int} {ds:List Dt} {cs:List Value} (h:Raw w (.i::ss) (.i n::ds) cs):∃ x,cs=.int .i64 n::x∧Raw w ss ds x:=by
 cases h with|i n h=>exact⟨_,rfl,h⟩
theorem Raw.c_b {w:World} {ss:List Sh} {n:Bool} {ds:List Dt} {cs:List Value} (h:Raw w (.b::ss) (.b n::ds) cs):∃ x,cs=.bool n::x∧Raw w ss ds x:=by
 cases h with|b n h=>exact⟨_,rfl,h⟩
theorem Raw.c_s {w:World} {ss:List Sh} {n:ByteArray} {ds:List Dt} {cs:List Value} (h:Raw w (.s::ss) (.s n::ds) cs):∃ x,cs=.string n::x∧Raw w ss ds x:=by
 cases h with|s n h=>exact⟨_,rfl,h⟩
theorem Raw.c_n {w:World} {cs:List Value} (h:Raw w [] [] cs):cs=[]:=by
 cases h;rfl
theorem Raw.c_r {w:World} {t:TypeId} {sh ss:List Sh} {n:Nat} {es ds:List Dt} {cs:List Value} (h:Raw w (.row t sh::ss) (.row n es::ds) cs):∃ v x,cs=v::x∧Raw w [.row t sh] [.row n es] [v]∧Raw w ss ds x:=by
 cases h with
 |emp t sh a c h=>exact⟨_,_,rfl,.emp t sh a c .nil,h⟩
 |row t sh p o n c vs es hp hn hr he h=>exact⟨_,_,rfl,.row t sh p o n c vs es hp hn hr he .nil,h⟩
theorem Typ.c_s {ss:List Sh} {ds:List Dt} (h:Typ (.s::ss) ds):∃ n x,ds=.s n::x∧Typ ss x:=by
 cases h with|s n h=>exact⟨_,_,rfl,h⟩
theorem Typ.c_n {ds:List Dt} (h:Typ [] ds):ds=[]:=by
 cases h;rfl
theorem Typ.c_r {t:TypeId} {sh ss:List Sh} {ds:List Dt} (h:Typ (.row t sh::ss) ds):∃ n es x,ds=.row n es::x∧Typ (bf n sh) es∧Typ ss x:=by
 cases h with|row t sh n es he h=>exact⟨_,_,_,rfl,he,h⟩
theorem GM {w:World} {b o:Nat} {x:Value} {y:List Value} (h:w.rangeAt b o (x::y)):w.cell? ⟨b,o,none⟩=some x∧w.rangeAt b (o+1) y:=by
 refine⟨?_, ?_⟩
 ·have:=h 0 x rfl;rwa [Nat.add_zero]at this
 ·exact(dA (x:=[x]) h).2
theorem aS.mks {W W':World} {S:Nat→Prop} {p:Nat} {cs:List Value} (h:aS W p cs) (hb:Marks S W W') (hp:¬ S p):aS W' p cs:=
 ⟨zL h.lt hb.size,cO h.at_ fun _ _=>hb.cell h.lt hp _⟩
theorem aR {W:World} {p:Nat} {t:TypeId} {n:Nat} (h:aV W p t n) (o k:Nat) (hk:o+k≤n):W.there p o k:=fun j hj=>by
 obtain⟨v,hv⟩:=h.cell (o+j) (by omega);exact⟨by rw[hv];rfl,h.frozen _⟩
theorem dB {p q:Nat} {t:TypeId} {n:Nat}:∀ (cs:List Value) (o:Nat) (W:World),aV W p t n→aV (W.setCells q o cs) p t n
 |[],_,_,h=>h
 |v::vs,o,W,h=>by
  rw[World.setCells];refine dB vs (o+1) _ ?_;by_cases e:p=q
  ·subst e;exact h.setCell o v
  ·exact h.vD e o v
theorem da {a:World} {q:Nat} (hq:a.heap.size≤q):∀ (cs:List Value) (o:Nat) (W:World),Bel a W→Bel a (W.setCells q o cs)
 |[],_,_,h=>h
 |v::vs,o,W,h=>by rw[World.setCells];exact da hq vs (o+1) _ (h.setCell (p:=⟨q,o,none⟩) hq v)
theorem aM {S:Nat→Prop} {q:Nat} (hq:S q):∀ (cs:List Value) (o:Nat) (W:World),Marks S W (W.setCells q o cs)
 |[],_,W=>Marks.refl S W
 |v::vs,o,W=>by rw[World.setCells];exact(Marks.sc W hq o v).trans (aM hq vs (o+1) _)
theorem aV.Ay (W:World) (cs:Array Value) (t:TypeId) (m n:Nat) (h:cs.size=m) (hn:n=W.heap.size):aV (W.alloc (.cells cs t)) n t m:=by
 subst hn;exact aV.alloc W cs t m h
end Go.Proofs.YtopjjknojnfhmaaGreatDoor
