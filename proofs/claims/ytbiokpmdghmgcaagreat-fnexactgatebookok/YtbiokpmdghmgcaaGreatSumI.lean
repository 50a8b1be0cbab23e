import Derived.DeepKeys4
import Derived.Deep.DeepCutAuto
import Derived.Test.YtbiokpmdghmgcaaGreatPlainBk
import Derived.Test.YtbiokpmdghmgcaaGreatRel
namespace Go.Proofs.YtbiokpmdghmgcaaGreat
open Go.RowKit Go.Deep
theorem qH:WideMaps.KeyLaw Tryz.prog 157:=deep_law_laid (m:=3) (by kernel_rfl) (by decide) (by decide+kernel) (by kernel_rfl) (by kernel_rfl)
theorem tL (a b:ByteArray):Value.formed Tryz.prog 157 (.agg #[.string a,.string b])=true:=by kernel_rfl
theorem zT:Tryz.prog.keyType 157=true:=by kernel_rfl
theorem gN:Tryz.prog.cellsOf 9=1:=by kernel_rfl
theorem zD:Tryz.prog.cellsOf 157=2:=by kernel_rfl
theorem Ag (d:Nat) (a b:ByteArray) (ha:a.size≤maxLen) (hb:b.size≤maxLen):Tryz.prog.keyLits (d+1+1) 157 [.string a,.string b]=some [Lit.string a.data.toList,Lit.string b.data.toList]:=by
 simp[Program.keyLits,Tryz.underlying157,zD,gN,ha,hb]
theorem tsz:decide (0<Tryz.prog.types.size)=true:=by kernel_rfl
theorem m9 (a b:ByteArray) (ha:a.size≤maxLen) (hb:b.size≤maxLen):∃ l,keyOf Tryz.prog 157 (.agg #[.string a,.string b])=some l:=by
 unfold keyOf;rw[Tryz.underlying157];obtain⟨d,e⟩:∃ d,Tryz.prog.types.size=d+1:=⟨Tryz.prog.types.size - 1,by have:=of_decide_eq_true tsz;omega⟩
 simp only[zT,tL,Bool.and_true,if_true,e];have:=Ag d a b ha hb;rw[show (Value.agg #[Value.string a,Value.string b]).cells.toList=[.string a,.string b] from rfl,this];exact⟨_,rfl⟩
def qv (x:Lg) (v:Int) (i:Nat):MapEntry:=⟨.agg #[.string x.team,.string x.res],.int .i64 v,i⟩
def fp (x:Lg):Value:=.agg #[.string x.team,.string x.res]
theorem rX {x y:Lg} (h:fp x=fp y):x.team=y.team∧x.res=y.res:=by
 unfold fp at h;injection h with h
 have h0:=congrArg (fun a:Array Value=>a[0]?) h;have h1:=congrArg (fun a:Array Value=>a[1]?) h;simp at h0 h1;exact⟨h0,h1⟩
def bJ (ls:List Lg) (f:Nat→Int) (k:Nat):Array MapEntry:=((List.range k).map fun i=>qv (ls.getD i Lg.none) (f i) i).toArray
theorem kW (ls:List Lg) (f:Nat→Int) (k:Nat):(bJ ls f k).size=k:=by simp[bJ]
theorem ir (ls:List Lg) (f:Nat→Int) (k i:Nat) (h:i<k):(bJ ls f k)[i]? =some (qv (ls.getD i Lg.none) (f i) i):=by simp[bJ,h]
theorem uA (ls:List Lg) (f:Nat→Int) (k:Nat):(bJ ls f k).push (qv (ls.getD k Lg.none) (f k) k)=bJ ls f (k+1):=by
 unfold bJ;rw[List.range_succ,List.map_append];simp
def mh (ls:List Lg):Prop:=∀ i j,i<ls.length→j<ls.length→fp (ls.getD i Lg.none)=fp (ls.getD j Lg.none)→i=j
def kA (ls:List Lg):Prop:=∀ i,i<ls.length→(ls.getD i Lg.none).sized
theorem og (ls:List Lg) (f:Nat→Int) (k:Nat) (W:World) (x:Lg) (hx:x.sized) (hk:k≤ls.length) (hs:kA ls):
  ((Instr.findKey 157 (fp x) (bJ ls f k).toList).run Tryz.prog W=.ok none W∧∀ i,i<k→fp (ls.getD i Lg.none)≠fp x)∨
  ∃ i,i<k∧(Instr.findKey 157 (fp x) (bJ ls f k).toList).run Tryz.prog W=.ok (some (i,.int .i64 (f i))) W∧fp (ls.getD i Lg.none)=fp x:=by
 obtain⟨l,hl⟩:=m9 x.team x.res hx.1 hx.2;have hes:∀ e∈(bJ ls f k).toList,∃ l,keyOf Tryz.prog 157 e.key=some l:=by
  intro e he;unfold bJ at he;simp only[List.mem_map,List.mem_range]at he;obtain⟨i,hi,rfl⟩:=he;exact m9 _ _ (hs i (by omega)).1 (hs i (by omega)).2
 rcases qH.find W hl _ hes with⟨h1,h2⟩|⟨j,e,h1,h2,h3⟩
 ·refine Or.inl ⟨h1,fun i hi he=> ?_⟩;have:=ir ls f k i hi;exact h2 _ (List.mem_of_getElem? (i:=i) (by simpa using this)) he
 ·have hj:j<k:=by
   have:=(List.getElem?_eq_some_iff.1 h2).1;simpa [bJ]using this
  have e2:=ir ls f k j hj;have e3:(bJ ls f k).toList[j]? =some (qv (ls.getD j Lg.none) (f j) j):=by simpa using e2
  rw[h2]at e3;injection e3 with e3
  subst e3;exact Or.inr ⟨j,hj,h1,h3⟩
def kI (W:World) (mb:Nat) (o:Obj):World:={W with heap:=W.heap.setIfInBounds mb o}
theorem l7 (W:World) (em:Bool) (x:Lg) (hx:x.sized):(Instr.checkKey em 10000 157 (fp x)).run Tryz.prog W=.ok () W:=by
 obtain⟨l,hl⟩:=m9 _ _ hx.1 hx.2;exact qH.check W em hl
theorem xg (W:World) (x:Lg) (hx:x.sized):(Instr.keyThatStays (fp x) (fp x)).run Tryz.prog W=.ok (fp x) W:=by
 obtain⟨l,hl⟩:=m9 _ _ hx.1 hx.2;exact qH.stays W hl
theorem Cf (es:Array MapEntry) (k mb:Nat) (W:World) (x:Lg) (v:Value) (hx:x.sized) (hb:W.heap[mb]? =some (.map es k)) (hn:(Instr.findKey 157 (fp x) es.toList).run Tryz.prog W=.ok none W):
  (Instr.mapUpdate 154 (.map (some mb)) (fp x) v).run Tryz.prog W=.ok () (kI W mb (.map (es.push ⟨fp x,v,k⟩) (k+1))):=by
 have hc:=l7 W false x hx;simp[Instr.mapUpdate,run_underlying Tryz.underlying154,MapKept.run_getObj_map hb,hc,hn,Result.andThen,MapKept.run_setObj_map _ hb,kI]
theorem rN (es:Array MapEntry) (k mb i:Nat) (W:World) (x:Lg) (v:Value) (hx:x.sized) (hb:W.heap[mb]? =some (.map es k)) (hn:(Instr.findKey 157 (fp x) es.toList).run Tryz.prog W=.ok (some (i,v)) W):
  (Instr.lookup 154 (.map (some mb)) (fp x) false).run Tryz.prog W=.ok v W:=by
 have hc:=l7 W es.isEmpty x hx;simp[Instr.lookup,run_underlying Tryz.underlying154,MapKept.run_getObj_map hb,hc,hn,Result.andThen]
theorem vX (es:Array MapEntry) (k mb i bn:Nat) (W:World) (x:Lg) (v:Value) (hx:x.sized) (hb:W.heap[mb]? =some (.map es k)) (hn:(Instr.findKey 157 (fp x) es.toList).run Tryz.prog W=.ok (some (i,v)) W) (he:es[i]? =some ⟨fp x,v,bn⟩):
  (Instr.mapEntry 154 (.map (some mb)) (fp x)).run Tryz.prog W=.ok (.tuple #[v,.int .i64 (bn:Nat)]) W:=by
 have hc:=l7 W false x hx;have hst:=xg W x hx;have Ls:(es.modify i fun e=>{e with key:=fp x})=es:=by
  apply Array.ext_getElem?;intro j;rw[Array.getElem?_modify];split
  ·rename_i e;subst e;rw[he];rfl
  ·rfl
 have K9:kI W mb (.map es k)=W:=by
  unfold kI;have:W.heap.setIfInBounds mb (.map es k)=W.heap:=by
   apply Array.ext_getElem?;intro j;rw[Array.getElem?_setIfInBounds];split
   ·rename_i e
    subst e;split
    ·exact hb.symm
    ·rename_i h;rw[Array.getElem?_eq_none (by omega)]at hb;cases hb
   ·rfl
  rw[this]
 simp[Instr.mapEntry,run_underlying Tryz.underlying154,MapKept.run_getObj_map hb,hc,hn,he,hst,Result.andThen,MapKept.run_setObj_map _ hb,Ls,goInt];exact K9
theorem wu (es:Array MapEntry) (k mb i:Nat) (W:World) (v:Value) (hb:W.heap[mb]? =some (.map es k)) (hi:es.findIdx? (fun e=>(e.born:Int)==(i:Int))=some i):
  (Instr.entryStore 154 (.map (some mb)) (.int .i64 (i:Nat)) v).run Tryz.prog W=.ok () (kI W mb (.map (es.modify i fun e=>{e with val:=v}) k)):=by
 simp[Instr.entryStore,MapKept.run_getObj_map hb,Result.andThen,MapKept.run_setObj_map _ hb,hi,kI,asInt,asIntOf]
theorem xd (ls:List Lg) (f:Nat→Int) (k i:Nat) (v:Int):((bJ ls f k).modify i fun e=>{e with val:=.int .i64 v})=bJ ls (fun j=>if j=i then v else f j) k:=by
 apply Array.ext_getElem?;intro j;rw[Array.getElem?_modify];by_cases hj:j<k
 ·rw[ir _ _ _ _ hj,ir _ _ _ _ hj];split
  ·rename_i e;subst e;simp[qv]
  ·rename_i e
   rw[if_neg (fun h=>e h.symm)]
 ·have h1:(bJ ls f k)[j]? =none:=Array.getElem?_eq_none (by rw[kW];omega);have h2:(bJ ls (fun j=>if j=i then v else f j) k)[j]? =none:=Array.getElem?_eq_none (by rw[kW];omega);rw[h1,h2];split<;>rfl
theorem ui (ls:List Lg) (f:Nat→Int) (k i:Nat) (h:i<k):(bJ ls f k).findIdx? (fun e=>(e.born:Int)==(i:Int))=some i:=by
 rw[Array.findIdx?_eq_some_iff_getElem];refine⟨by rw[kW];exact h, ?_, ?_⟩
 ·have:=ir ls f k i h;rw[Array.getElem?_eq_some_iff]at this;obtain⟨_,e⟩:=this;rw[e];simp[qv]
 ·intro j hj;have:=ir ls f k j (by omega);rw[Array.getElem?_eq_some_iff]at this;obtain⟨_,e⟩:=this;rw[e];simp[qv];omega
theorem wO (ls:List Lg) {f g:Nat→Int} {k:Nat} (h:∀ i,i<k→f i=g i):bJ ls f k=bJ ls g k:=by
 unfold bJ;congr 1;apply List.map_congr_left;intro i hi;rw[h i (List.mem_range.1 hi)]
theorem xF (W:World) (mb:Nat) (o:Obj):(kI W mb o).heap.size=W.heap.size:=by simp[kI]
theorem BM {W:World} {mb:Nat} (o:Obj) (h:mb<W.heap.size):(kI W mb o).heap[mb]? =some o:=by simp[kI,h]
theorem tA {W:World} {mb b:Nat} (o:Obj) (h:b≠mb):(kI W mb o).heap[b]? =W.heap[b]? :=by
 simp only[kI];rw[Array.getElem?_setIfInBounds_ne (fun e=>h e.symm)]
structure MW (v:World) (mb:Nat) (W:World):Prop where
 os:W.os=v.os
 tape:W.tape=v.tape
 output:W.output=v.output
 size:v.heap.size≤W.heap.size
 lt:mb<v.heap.size
 block:∀ b,b<v.heap.size→b≠mb→W.heap[b]? =v.heap[b]?
theorem MW.cell {v W:World} {mb b j:Nat} (h:MW v mb W) (hb:b<v.heap.size) (fa:b≠mb):W.cell? ⟨b,j,none⟩=v.cell? ⟨b,j,none⟩:=by
 unfold World.cell?;rw[h.block b hb fa]
theorem MW.mQ {v W:World} {mb p:Nat} {cs:Array Value} (h:MW v mb W) (hx:aT v p cs) (fa:p≠mb):aT W p cs:=
 ⟨lo hx.lt h.size,fun j=>(h.cell hx.lt fa).trans (hx.at_ j)⟩
theorem MW.later {v W W':World} {mb:Nat} (h:MW v mb W) (hb:Bel W W'):MW v mb W':=
 ⟨hb.os.trans h.os,hb.tape.trans h.tape,hb.output.trans h.output,Nat.le_trans h.size hb.size,h.lt,fun b vM fa=>(hb.block b (lo vM h.size)).trans (h.block b vM fa)⟩
theorem MW.put {v W:World} {mb:Nat} (h:MW v mb W) (o:Obj):MW v mb (YtbiokpmdghmgcaaGreat.kI W mb o):=
 ⟨h.os,h.tape,h.output,by rw[xF];exact h.size,h.lt,fun b hb fa=>(tA o fa).trans (h.block b hb fa)⟩
theorem MW.below {v W w:World} {mb:Nat} (h:MW v mb W) (hv:Bel w v) (hm:w.heap.size≤mb):Bel w W:=
 ⟨h.os.trans hv.os,h.tape.trans hv.tape,h.output.trans hv.output,Nat.le_trans hv.size h.size,fun k hk=>(h.block k (lo hk hv.size) (by omega)).trans (hv.block k hk)⟩
theorem oq {P:Program} {id:Nat} {Q:Exit→Act→World→Prop} {a0:Act} {w:World} {l:List Oper} (mb n:Nat) (o1 o2:Obj) (qk:mb<w.heap.size) (h1:w.heap[mb]? =some o1) (V:Nat→Value→Prop) (hm:P.follows .mixedOrders=true)
  (hasc:asc .any l.toArray=true) (hap:j3 l=true) (eI:mn l a0.tmps.size=true) (hn:n<l.length)
  (CH:∀ (L:Array Bool) (i:Nat) (o:Oper),i≠n→l[i]? =some o→L.getD i true=false→fq .any l.toArray L→∀ (a:Act) (W:World),MW w mb W→(L.getD n false=false→W.heap[mb]? =some o1)→(∀ k,pT l k=true→a.eval (.tmp k)=a0.eval (.tmp k))→
   (∀ (j:Nat) (o':Oper) (k:Nat),l[j]? =some o'→o'.dst=some k→(∃ e∈o.after,e.on=j∧Region.binds .any e=true)→V j (a.eval (.tmp k)))→OpR P (fun j u _=>V j u) i o a W)
  (hlast:∀ (o:Oper),l[n]? =some o→∀ (a:Act) (W:World),MW w mb W→W.heap[mb]? =some o1→(∀ k,pT l k=true→a.eval (.tmp k)=a0.eval (.tmp k))→
   (∀ (j:Nat) (o':Oper) (k:Nat),l[j]? =some o'→o'.dst=some k→(∃ e∈o.after,e.on=j∧Region.binds .any e=true)→V j (a.eval (.tmp k)))→o.dst=none∧(execOp a.eval o).run P W=.ok .skip (kI W mb o2))
  (hend:∀ (W:World) (vs:Nat→Value),MW w mb W→W.heap[mb]? =some o2→(∀ (i:Nat) (o:Oper) (k:Nat),l[i]? =some o→o.dst=some k→V i (vs k))→Q .normal (el l a0 vs) W):
  (Code.region id l.toArray true).wp P Q a0 w:=by
 have Jc:MW w mb w.drew:=⟨rfl,rfl,rfl,nr,qk,fun _ _ _=>rfl⟩
 refine oe (fun L W=>MW w mb W∧W.heap[mb]? =some (if L.getD n false=true then o2 else o1)) (fun j u _=>V j u) hm hasc eI ⟨Jc, ?_⟩ ?_ ?_
 ·rw[ji];exact h1
 ·intro L a W i o h hc ho hi av;have hg:=(js eI ho).1;have Iv:∀ (j:Nat) (o':Oper) (k:Nat),l[j]? =some o'→o'.dst=some k→(∃ e∈o.after,e.on=j∧Region.binds .any e=true)→V j (a.eval (.tmp k)):=fun j o' k hj hk ⟨e,he,KY,hb⟩=>h.new j o' k hj hk (by rw[← KY];exact av e he hb);by_cases bC:i=n
  ·subst bC;have CY:L.getD i false=false:=ku hi;have FM:W.heap[mb]? =some o1:=by have:=h.cw.2;rw[CY]at this;exact this
   obtain⟨hd,hr⟩:=hlast o ho a W h.cw.1 FM (fun k hk=>h.lM hk) Iv;refine p8 (by simpa using ho) hg hr (h.step hap eI ho hi ⟨h.cw.1.put o2, ?_⟩ (fun _ _ hx=>hx) (fun hs=>by rw[hd]at hs;cases hs));rw[jl hi];exact BM o2 (lo h.cw.1.lt h.cw.1.size)
  ·have hcn:(L.setIfInBounds i true).getD n false=L.getD n false:=getD_set_ne false bC;have DD:∀ W',Bel W W'→MW w mb W'∧W'.heap[mb]? =some (if (L.setIfInBounds i true).getD n false=true then o2 else o1):=fun W' hb=>by
    refine⟨h.cw.1.later hb, ?_⟩;rw[hcn,hb.block mb (lo h.cw.1.lt h.cw.1.size)];exact h.cw.2
   rcases CH L i o bC ho hi hc a W h.cw.1 (fun hf=>by have:=h.cw.2;rw[hf]at this;exact this) (fun k hk=>h.lM hk) Iv with⟨u,W',hr,hb,hV⟩|⟨f,args,hr,hk⟩
   ·exact bI (by simpa using ho) hg hr (h.step hap eI ho hi (DD W' hb) (fun _ _ hx=>hx) (fun _=>hV))
   ·refine jI (by simpa using ho) hg hr (hk.mono ?_);rintro e W' ⟨u,rfl,hb,hV⟩;exact⟨u,rfl,h.step hap eI ho hi (DD W' hb) (fun _ _ hx=>hx) (fun _=>hV)⟩
 ·intro L W vs av hC hV;refine hend W vs hC.1 ?_ hV;have:=hC.2;rw[av n hn]at this;exact this
end Go.Proofs.YtbiokpmdghmgcaaGreat
namespace Go.Proofs.YtbiokpmdghmgcaaGreat
set_option maxRecDepth 8000
set_option maxHeartbeats 40000000
open Go.RowKit Go.Deep
def b9 (L:Lw) (K:Bk) (i:Nat):Nat→Int
 |0=>wrap64 (used L K (K.ledgers.getD i Lg.none).team (K.ledgers.getD i Lg.none).res+(K.ledgers.getD i Lg.none).free)
 |p+1=>if (((K.purses.getD p Ps.none).team.toList==(K.ledgers.getD i Lg.none).team.toList)&&((K.purses.getD p Ps.none).res.toList==(K.ledgers.getD i Lg.none).res.toList))=true then wrap64 (b9 L K i p+(K.purses.getD p Ps.none).amount) else b9 L K i p
theorem p7 (n:Int):IntKind.i64.wrap n=wrap64 n:=by
 simp[IntKind.wrap,IntKind.bits,IntKind.signed,wrap64];try omega
def VL (vs:List Value) (j:Nat) (u:Value):Prop:=vs[j]? =some u
theorem jC {a b:ByteArray} (h:a.toList=b.toList):a=b:=by
 have h1:a.data.toList=b.data.toList:=by simpa [ByteArray.toList_eq]using h
 cases a;cases b;simp_all
theorem G3 (L:Lw) (K:Bk) (a0 a1 a2 e0 e1 e2 e3:Nat) (w:World) (hL:iy w a0 a1 a2 L) (hK:gp w e0 e1 e2 e3 K) (hs:kA K.ledgers) (ha:mh K.ledgers) (hp:∀ p,p<K.purses.length→il K.ledgers (K.purses.getD p Ps.none).team (K.purses.getD p Ps.none).res<K.ledgers.length):
  Calls Tryz.prog 97 #[.agg #[.slice (some ⟨a0,0,none⟩) L.shapes.length L.shapes.length,.slice (some ⟨a1,0,none⟩) L.mends.length L.mends.length,.slice (some ⟨a2,0,none⟩) L.teams.length L.teams.length],.agg #[.int .i64 K.now,.int .i64 K.tick,.int .i64 K.given,.slice (some ⟨e0,0,none⟩) K.objects.length K.objects.length,.slice (some ⟨e1,0,none⟩) K.grants.length K.grants.length,.slice (some ⟨e2,0,none⟩) K.ledgers.length K.ledgers.length,.slice (some ⟨e3,0,none⟩) K.purses.length K.purses.length]] w fun e w'=>(∃ mb,e=.returned (.map (some mb))∧w.heap.size≤mb∧mb<w'.heap.size∧w'.heap[mb]? =some (.map (bJ K.ledgers (fun i=>b9 L K i K.purses.length) K.ledgers.length) K.ledgers.length))∧Bel w w':=by
 have HA:=hid (And.intro hL (And.intro hK (And.intro hs (And.intro ha hp))));have hl:=hK.l.len;have Dw:=hK.p.len;clear hL hK hs ha hp;obtain⟨w2,i3⟩:∃ w2,w2=((w.alloc (.cells #[.slice (some ⟨a0,0,none⟩) L.shapes.length L.shapes.length,.slice (some ⟨a1,0,none⟩) L.mends.length L.mends.length,.slice (some ⟨a2,0,none⟩) L.teams.length L.teams.length] 40)).alloc (.cells #[.int .i64 K.now,.int .i64 K.tick,.int .i64 K.given,.slice (some ⟨e0,0,none⟩) K.objects.length K.objects.length,.slice (some ⟨e1,0,none⟩) K.grants.length K.grants.length,.slice (some ⟨e2,0,none⟩) K.ledgers.length K.ledgers.length,.slice (some ⟨e3,0,none⟩) K.purses.length K.purses.length] 47)).alloc (.map #[] 0):=⟨_,rfl⟩
 have uD:Hid (Bel w w2∧aT w2 w.heap.size #[.slice (some ⟨a0,0,none⟩) L.shapes.length L.shapes.length,.slice (some ⟨a1,0,none⟩) L.mends.length L.mends.length,.slice (some ⟨a2,0,none⟩) L.teams.length L.teams.length]∧aT w2 (w.heap.size+1) #[.int .i64 K.now,.int .i64 K.tick,.int .i64 K.given,.slice (some ⟨e0,0,none⟩) K.objects.length K.objects.length,.slice (some ⟨e1,0,none⟩) K.grants.length K.grants.length,.slice (some ⟨e2,0,none⟩) K.ledgers.length K.ledgers.length,.slice (some ⟨e3,0,none⟩) K.purses.length K.purses.length]∧(w.heap.size+2)<w2.heap.size∧w2.heap[w.heap.size+2]? =some (.map (bJ K.ledgers (fun i=>b9 L K i 0) 0) 0)):=by
  show _∧_∧_∧_∧_;rw[i3];refine⟨ab (ab (ab br _) _) _,((aT.bV w _ _ _ rfl).ek _).ek _,(aT.bV _ _ _ _ (by simp)).ek _,by simp, ?_⟩;have:=hZ ((w.alloc (.cells #[.slice (some ⟨a0,0,none⟩) L.shapes.length L.shapes.length,.slice (some ⟨a1,0,none⟩) L.mends.length L.mends.length,.slice (some ⟨a2,0,none⟩) L.teams.length L.teams.length] 40)).alloc (.cells #[.int .i64 K.now,.int .i64 K.tick,.int .i64 K.given,.slice (some ⟨e0,0,none⟩) K.objects.length K.objects.length,.slice (some ⟨e1,0,none⟩) K.grants.length K.grants.length,.slice (some ⟨e2,0,none⟩) K.ledgers.length K.ledgers.length,.slice (some ⟨e3,0,none⟩) K.purses.length K.purses.length] 47)) (.map #[] 0);rw[show ((w.alloc (.cells #[.slice (some ⟨a0,0,none⟩) L.shapes.length L.shapes.length,.slice (some ⟨a1,0,none⟩) L.mends.length L.mends.length,.slice (some ⟨a2,0,none⟩) L.teams.length L.teams.length] 40)).alloc (.cells #[.int .i64 K.now,.int .i64 K.tick,.int .i64 K.given,.slice (some ⟨e0,0,none⟩) K.objects.length K.objects.length,.slice (some ⟨e1,0,none⟩) K.grants.length K.grants.length,.slice (some ⟨e2,0,none⟩) K.ledgers.length K.ledgers.length,.slice (some ⟨e3,0,none⟩) K.purses.length K.purses.length] 47)).heap.size=w.heap.size+2 by simp]at this;exact this
 have iI:∀ W:World,(Instr.makeMap 154 none).run Tryz.prog W=.ok (.map (some W.heap.size)) (W.alloc (.map #[] 0)):=fun W=>by kernel_rfl
 go_enter Tryz.func97,Tryz.ntmps97
 go_upto_region 2 with fail
 rw[← i3];clear i3 iI;obtain⟨_,_,aR,_,_⟩:=uD.out;have yz:=aR.lt;have y5:w2.cell? ⟨w.heap.size+1,5,none⟩=some (.slice (some ⟨e2,0,none⟩) K.ledgers.length K.ledgers.length):=aR.at_ 5;clear aR;go_wp2;clear yz y5;go_loopw [14] (fun i wr=>∃ q:Nat,q≤K.ledgers.length∧i=.int .i64 q∧(Bel w wr∧aT wr w.heap.size #[.slice (some ⟨a0,0,none⟩) L.shapes.length L.shapes.length,.slice (some ⟨a1,0,none⟩) L.mends.length L.mends.length,.slice (some ⟨a2,0,none⟩) L.teams.length L.teams.length]∧aT wr (w.heap.size+1) #[.int .i64 K.now,.int .i64 K.tick,.int .i64 K.given,.slice (some ⟨e0,0,none⟩) K.objects.length K.objects.length,.slice (some ⟨e1,0,none⟩) K.grants.length K.grants.length,.slice (some ⟨e2,0,none⟩) K.ledgers.length K.ledgers.length,.slice (some ⟨e3,0,none⟩) K.purses.length K.purses.length]∧(w.heap.size+2)<wr.heap.size∧wr.heap[w.heap.size+2]? =some (.map (bJ K.ledgers (fun i=>b9 L K i 0) q) q))) (fun i _=>K.ledgers.length - (intOf i).toNat)
 case atStart=>exact⟨0,nz,rfl,uD.out⟩
 case round=>
  obtain⟨q,hq,rfl,hI⟩:=hrel;have HI:=hid hI;clear hI;by_cases aw:q<K.ledgers.length
  ·obtain⟨x,hx⟩:∃ x,x=K.ledgers.getD q Lg.none:=⟨_,rfl⟩
   have bC:=(HA.out.2.1.later HI.out.1).l;have gx:=bC.lt;have eb:=bC.at_ q aw;rw[← hx]at eb;obtain⟨c0,c1,c2,c3,eQ⟩:=eb;obtain⟨w4,ej⟩:∃ w4,w4=wr.alloc (.cells #[.string x.team,.string x.res,.int .i64 x.most,.int .i64 x.free] 131):=⟨_,rfl⟩
   obtain⟨E,hE⟩:∃ E,E=wr.heap.size:=⟨_,rfl⟩
   have dC:Bel wr w4:=by rw[ej];exact ab br _
   have aY:=hid (aa HI.out.1 dC);have F9:Hid (aT w4 E #[.string x.team,.string x.res,.int .i64 x.most,.int .i64 x.free]):=by show aT _ _ _;rw[ej];exact aT.bV _ _ _ _ hE
   have Hj:=hid (HI.out.2.1.later dC);have H8:=hid (HI.out.2.2.1.later dC);have Dn:Hid (w.heap.size+2<E):=by show _<E;rw[hE];exact HI.out.2.2.2.1
   have sW:Hid ((w.heap.size+2)<w4.heap.size∧w4.heap[w.heap.size+2]? =some (.map (bJ K.ledgers (fun i=>b9 L K i 0) q) q)):=⟨lo HI.out.2.2.2.1 dC.size,(dC.block _ HI.out.2.2.2.1).trans HI.out.2.2.2.2⟩
   obtain⟨us,Ax⟩:∃ us,us=used L K x.team x.res:=⟨_,rfl⟩
   have HUS:Hid (∀ W,Bel w W→Calls Tryz.prog 150 #[.agg #[.slice (some ⟨a0,0,none⟩) L.shapes.length L.shapes.length,.slice (some ⟨a1,0,none⟩) L.mends.length L.mends.length,.slice (some ⟨a2,0,none⟩) L.teams.length L.teams.length],.agg #[.int .i64 K.now,.int .i64 K.tick,.int .i64 K.given,.slice (some ⟨e0,0,none⟩) K.objects.length K.objects.length,.slice (some ⟨e1,0,none⟩) K.grants.length K.grants.length,.slice (some ⟨e2,0,none⟩) K.ledgers.length K.ledgers.length,.slice (some ⟨e3,0,none⟩) K.purses.length K.purses.length],.string x.team,.string x.res] W fun e w'=>e=.returned (.int .i64 us)∧Bel W w'):=fun W hW=>by
    rw[Ax];exact Ha L K a0 a1 a2 e0 e1 e2 e3 x.team x.res W (HA.out.1.later hW) (HA.out.2.1.later hW)
   have HUP:Hid (∀ W (v:Int),W.heap[w.heap.size+2]? =some (.map (bJ K.ledgers (fun i=>b9 L K i 0) q) q)→(Instr.mapUpdate 154 (.map (some (w.heap.size+2))) (.agg #[.string x.team,.string x.res]) (.int .i64 v)).run Tryz.prog W=.ok () (kI W (w.heap.size+2) (.map ((bJ K.ledgers (fun i=>b9 L K i 0) q).push ⟨fp x,.int .i64 v,q⟩) (q+1)))):=fun W v hb=>by
    refine Cf _ q (w.heap.size+2) W x (.int .i64 v) eQ hb ?_;rcases og K.ledgers (fun i=>b9 L K i 0) q W x eQ (by omega) HA.out.2.2.1 with h|⟨i,hi,_,he⟩
    ·exact h.1
    ·rw[hx]at he;exact absurd (HA.out.2.2.2.1 i q (by omega) aw he) (by omega)
   have Lk:Hid ((bJ K.ledgers (fun i=>b9 L K i 0) q).push ⟨fp x,.int .i64 (wrap64 (us+x.free)),q⟩=bJ K.ledgers (fun i=>b9 L K i 0) (q+1)):=by
    show _=_;rw[← uA];unfold qv fp;rw[Ax,hx];rfl
   clear hx bC Ax eQ;obtain⟨_,_,aR,_,_⟩:=HI.out;have yz:=aR.lt;go_upto_region 5 with fail
   rw[← ej,← hE];clear ej hE c0 c1 c2 c3 gx yz aR;refine oq (w.heap.size+2) 16 (.map (bJ K.ledgers (fun i=>b9 L K i 0) q) q) (.map ((bJ K.ledgers (fun i=>b9 L K i 0) q).push ⟨fp x,.int .i64 (wrap64 (us+x.free)),q⟩) (q+1)) sW.out.1 sW.out.2 (VL [.map (some (w.heap.size+2)),.pointer (some ⟨E,0,none⟩),.string x.team,.pointer (some ⟨E,1,none⟩),.string x.res,.agg #[.string x.team,.string x.res],.agg #[.slice (some ⟨a0,0,none⟩) L.shapes.length L.shapes.length,.slice (some ⟨a1,0,none⟩) L.mends.length L.mends.length,.slice (some ⟨a2,0,none⟩) L.teams.length L.teams.length],.agg #[.int .i64 K.now,.int .i64 K.tick,.int .i64 K.given,.slice (some ⟨e0,0,none⟩) K.objects.length K.objects.length,.slice (some ⟨e1,0,none⟩) K.grants.length K.grants.length,.slice (some ⟨e2,0,none⟩) K.ledgers.length K.ledgers.length,.slice (some ⟨e3,0,none⟩) K.purses.length K.purses.length],.pointer (some ⟨E,0,none⟩),.string x.team,.pointer (some ⟨E,1,none⟩),.string x.res,.int .i64 us,.pointer (some ⟨E,3,none⟩),.int .i64 x.free,.int .i64 (wrap64 (us+x.free))]) (by kernel_rfl) (by kernel_rfl) (by kernel_rfl) (by kernel_rfl) (by decide) ?_ ?_ ?_
   ·intro LL i o bC ho hi sP a W hW uH hk hd;have et5:a.tmps[5]?.getD undef=.map (some (w.heap.size+2)):=(az a 5).trans ((hk 5 rfl).trans rfl);have et7:a.tmps[7]?.getD undef=.pointer (some ⟨E,0,none⟩):=(az a 7).trans ((hk 7 rfl).trans rfl);have et2:a.tmps[2]?.getD undef=.pointer (some ⟨w.heap.size,0,none⟩):=(az a 2).trans ((hk 2 rfl).trans rfl);have et3:a.tmps[3]?.getD undef=.pointer (some ⟨w.heap.size+1,0,none⟩):=(az a 3).trans ((hk 3 rfl).trans rfl);have hE:=hW.mQ F9.out (by have:=Dn.out;omega);have CG:=hW.mQ Hj.out (by omega);have mT:=hW.mQ H8.out (by omega);have jq:=hE.lt;have gR:=CG.lt;have vN:=mT.lt;have ft:=hW.below aY.out (Nat.le_add_right _ _);have x0:W.cell? ⟨E,0,none⟩=some (.string x.team):=hE.at_ 0;have x1:W.cell? ⟨E,1,none⟩=some (.string x.res):=hE.at_ 1;have x2:W.cell? ⟨E,2,none⟩=some (.int .i64 x.most):=hE.at_ 2;have x3:W.cell? ⟨E,3,none⟩=some (.int .i64 x.free):=hE.at_ 3;have l0:W.cell? ⟨w.heap.size,0,none⟩=some (.slice (some ⟨a0,0,none⟩) L.shapes.length L.shapes.length):=CG.at_ 0;have l1:W.cell? ⟨w.heap.size,1,none⟩=some (.slice (some ⟨a1,0,none⟩) L.mends.length L.mends.length):=CG.at_ 1;have l2:W.cell? ⟨w.heap.size,2,none⟩=some (.slice (some ⟨a2,0,none⟩) L.teams.length L.teams.length):=CG.at_ 2;have y0:W.cell? ⟨w.heap.size+1,0,none⟩=some (.int .i64 K.now):=mT.at_ 0;have y1:W.cell? ⟨w.heap.size+1,1,none⟩=some (.int .i64 K.tick):=mT.at_ 1;have y2:W.cell? ⟨w.heap.size+1,2,none⟩=some (.int .i64 K.given):=mT.at_ 2;have y3:W.cell? ⟨w.heap.size+1,3,none⟩=some (.slice (some ⟨e0,0,none⟩) K.objects.length K.objects.length):=mT.at_ 3;have y4:W.cell? ⟨w.heap.size+1,4,none⟩=some (.slice (some ⟨e1,0,none⟩) K.grants.length K.grants.length):=mT.at_ 4;have y5:W.cell? ⟨w.heap.size+1,5,none⟩=some (.slice (some ⟨e2,0,none⟩) K.ledgers.length K.ledgers.length):=mT.at_ 5;have y6:W.cell? ⟨w.heap.size+1,6,none⟩=some (.slice (some ⟨e3,0,none⟩) K.purses.length K.purses.length):=mT.at_ 6;match i,ho with
    |0,ho=>
     injection ho with ho;subst ho
     exact Or.inl ⟨_,W,by simp[execOp,go_sem,et5],br,rfl⟩
    |1,ho=>
     injection ho with ho;subst ho
     exact Or.inl ⟨_,W,by simp[execOp,go_sem,et7],br,rfl⟩
    |2,ho=>
     injection ho with ho;subst ho
     have e1:a.tmps[19]?.getD undef=.pointer (some ⟨E,0,none⟩):=(az a 19).trans (Option.some.inj (hd 1 _ 19 rfl rfl ⟨⟨1,.data⟩,by simp,rfl,rfl⟩)).symm;exact Or.inl ⟨_,W,by simp[execOp,go_sem,e1,x0],br,rfl⟩
    |3,ho=>
     injection ho with ho;subst ho
     exact Or.inl ⟨_,W,by simp[execOp,go_sem,et7],br,rfl⟩
    |4,ho=>
     injection ho with ho;subst ho
     have e3:a.tmps[21]?.getD undef=.pointer (some ⟨E,1,none⟩):=(az a 21).trans (Option.some.inj (hd 3 _ 21 rfl rfl ⟨⟨3,.data⟩,by simp,rfl,rfl⟩)).symm;exact Or.inl ⟨_,W,by simp[execOp,go_sem,e3,x1],br,rfl⟩
    |5,ho=>
     injection ho with ho;subst ho
     have e2:a.tmps[20]?.getD undef=.string x.team:=(az a 20).trans (Option.some.inj (hd 2 _ 20 rfl rfl ⟨⟨2,.data⟩,by simp,rfl,rfl⟩)).symm;have e4:a.tmps[22]?.getD undef=.string x.res:=(az a 22).trans (Option.some.inj (hd 4 _ 22 rfl rfl ⟨⟨4,.data⟩,by simp,rfl,rfl⟩)).symm;exact Or.inl ⟨_,W,by simp[execOp,go_sem,e2,e4],br,rfl⟩
    |6,ho=>
     injection ho with ho;subst ho
     exact Or.inl ⟨_,W,by simp[execOp,go_sem,et2,l0,l1,l2],br,rfl⟩
    |7,ho=>
     injection ho with ho;subst ho
     exact Or.inl ⟨_,W,by simp[execOp,go_sem,et3,y0,y1,y2,y3,y4,y5,y6],br,rfl⟩
    |8,ho=>
     injection ho with ho;subst ho
     exact Or.inl ⟨_,W,by simp[execOp,go_sem,et7],br,rfl⟩
    |9,ho=>
     injection ho with ho;subst ho
     have e8:a.tmps[26]?.getD undef=.pointer (some ⟨E,0,none⟩):=(az a 26).trans (Option.some.inj (hd 8 _ 26 rfl rfl ⟨⟨8,.data⟩,by simp,rfl,rfl⟩)).symm;exact Or.inl ⟨_,W,by simp[execOp,go_sem,e8,x0],br,rfl⟩
    |10,ho=>
     injection ho with ho;subst ho
     exact Or.inl ⟨_,W,by simp[execOp,go_sem,et7],br,rfl⟩
    |11,ho=>
     injection ho with ho;subst ho
     have e10:a.tmps[28]?.getD undef=.pointer (some ⟨E,1,none⟩):=(az a 28).trans (Option.some.inj (hd 10 _ 28 rfl rfl ⟨⟨10,.data⟩,by simp,rfl,rfl⟩)).symm;exact Or.inl ⟨_,W,by simp[execOp,go_sem,e10,x1],br,rfl⟩
    |12,ho=>
     injection ho with ho;subst ho
     have e6:a.tmps[24]?.getD undef=.agg #[.slice (some ⟨a0,0,none⟩) L.shapes.length L.shapes.length,.slice (some ⟨a1,0,none⟩) L.mends.length L.mends.length,.slice (some ⟨a2,0,none⟩) L.teams.length L.teams.length]:=(az a 24).trans (Option.some.inj (hd 6 _ 24 rfl rfl ⟨⟨6,.data⟩,by simp,rfl,rfl⟩)).symm;have e7:a.tmps[25]?.getD undef=.agg #[.int .i64 K.now,.int .i64 K.tick,.int .i64 K.given,.slice (some ⟨e0,0,none⟩) K.objects.length K.objects.length,.slice (some ⟨e1,0,none⟩) K.grants.length K.grants.length,.slice (some ⟨e2,0,none⟩) K.ledgers.length K.ledgers.length,.slice (some ⟨e3,0,none⟩) K.purses.length K.purses.length]:=(az a 25).trans (Option.some.inj (hd 7 _ 25 rfl rfl ⟨⟨7,.data⟩,by simp,rfl,rfl⟩)).symm;have e9:a.tmps[27]?.getD undef=.string x.team:=(az a 27).trans (Option.some.inj (hd 9 _ 27 rfl rfl ⟨⟨9,.data⟩,by simp,rfl,rfl⟩)).symm;have e11:a.tmps[29]?.getD undef=.string x.res:=(az a 29).trans (Option.some.inj (hd 11 _ 29 rfl rfl ⟨⟨11,.data⟩,by simp,rfl,rfl⟩)).symm;refine Or.inr ⟨150,#[.agg #[.slice (some ⟨a0,0,none⟩) L.shapes.length L.shapes.length,.slice (some ⟨a1,0,none⟩) L.mends.length L.mends.length,.slice (some ⟨a2,0,none⟩) L.teams.length L.teams.length],.agg #[.int .i64 K.now,.int .i64 K.tick,.int .i64 K.given,.slice (some ⟨e0,0,none⟩) K.objects.length K.objects.length,.slice (some ⟨e1,0,none⟩) K.grants.length K.grants.length,.slice (some ⟨e2,0,none⟩) K.ledgers.length K.ledgers.length,.slice (some ⟨e3,0,none⟩) K.purses.length K.purses.length],.string x.team,.string x.res],by simp[go_sem,e6,e7,e9,e11],(HUS.out W ft).mono ?_⟩;rintro e W' ⟨rfl,hb⟩;exact⟨_,rfl,hb,rfl⟩
    |13,ho=>
     injection ho with ho;subst ho
     exact Or.inl ⟨_,W,by simp[execOp,go_sem,et7],br,rfl⟩
    |14,ho=>
     injection ho with ho;subst ho
     have e13:a.tmps[31]?.getD undef=.pointer (some ⟨E,3,none⟩):=(az a 31).trans (Option.some.inj (hd 13 _ 31 rfl rfl ⟨⟨13,.data⟩,by simp,rfl,rfl⟩)).symm;exact Or.inl ⟨_,W,by simp[execOp,go_sem,e13,x3],br,rfl⟩
    |15,ho=>
     injection ho with ho;subst ho
     have e12:a.tmps[30]?.getD undef=.int .i64 us:=(az a 30).trans (Option.some.inj (hd 12 _ 30 rfl rfl ⟨⟨12,.data⟩,by simp,rfl,rfl⟩)).symm;have e14:a.tmps[32]?.getD undef=.int .i64 x.free:=(az a 32).trans (Option.some.inj (hd 14 _ 32 rfl rfl ⟨⟨14,.data⟩,by simp,rfl,rfl⟩)).symm;exact Or.inl ⟨.int .i64 (wrap64 (us+x.free)),W,by simp[execOp,go_sem,e12,e14,p7],br,rfl⟩
    |16,ho=>exact absurd rfl bC
    |m+17,ho=>simp at ho
   ·intro o ho a W hW uH hk hd;have et5:a.tmps[5]?.getD undef=.map (some (w.heap.size+2)):=(az a 5).trans ((hk 5 rfl).trans rfl);have et7:a.tmps[7]?.getD undef=.pointer (some ⟨E,0,none⟩):=(az a 7).trans ((hk 7 rfl).trans rfl);have et2:a.tmps[2]?.getD undef=.pointer (some ⟨w.heap.size,0,none⟩):=(az a 2).trans ((hk 2 rfl).trans rfl);have et3:a.tmps[3]?.getD undef=.pointer (some ⟨w.heap.size+1,0,none⟩):=(az a 3).trans ((hk 3 rfl).trans rfl);have hE:=hW.mQ F9.out (by have:=Dn.out;omega);have CG:=hW.mQ Hj.out (by omega);have mT:=hW.mQ H8.out (by omega);have jq:=hE.lt;have gR:=CG.lt;have vN:=mT.lt;have ft:=hW.below aY.out (Nat.le_add_right _ _);have x0:W.cell? ⟨E,0,none⟩=some (.string x.team):=hE.at_ 0;have x1:W.cell? ⟨E,1,none⟩=some (.string x.res):=hE.at_ 1;have x2:W.cell? ⟨E,2,none⟩=some (.int .i64 x.most):=hE.at_ 2;have x3:W.cell? ⟨E,3,none⟩=some (.int .i64 x.free):=hE.at_ 3;have l0:W.cell? ⟨w.heap.size,0,none⟩=some (.slice (some ⟨a0,0,none⟩) L.shapes.length L.shapes.length):=CG.at_ 0;have l1:W.cell? ⟨w.heap.size,1,none⟩=some (.slice (some ⟨a1,0,none⟩) L.mends.length L.mends.length):=CG.at_ 1;have l2:W.cell? ⟨w.heap.size,2,none⟩=some (.slice (some ⟨a2,0,none⟩) L.teams.length L.teams.length):=CG.at_ 2;have y0:W.cell? ⟨w.heap.size+1,0,none⟩=some (.int .i64 K.now):=mT.at_ 0;have y1:W.cell? ⟨w.heap.size+1,1,none⟩=some (.int .i64 K.tick):=mT.at_ 1;have y2:W.cell? ⟨w.heap.size+1,2,none⟩=some (.int .i64 K.given):=mT.at_ 2;have y3:W.cell? ⟨w.heap.size+1,3,none⟩=some (.slice (some ⟨e0,0,none⟩) K.objects.length K.objects.length):=mT.at_ 3;have y4:W.cell? ⟨w.heap.size+1,4,none⟩=some (.slice (some ⟨e1,0,none⟩) K.grants.length K.grants.length):=mT.at_ 4;have y5:W.cell? ⟨w.heap.size+1,5,none⟩=some (.slice (some ⟨e2,0,none⟩) K.ledgers.length K.ledgers.length):=mT.at_ 5;have y6:W.cell? ⟨w.heap.size+1,6,none⟩=some (.slice (some ⟨e3,0,none⟩) K.purses.length K.purses.length):=mT.at_ 6;injection ho with ho;subst ho
    have e0:a.tmps[18]?.getD undef=.map (some (w.heap.size+2)):=(az a 18).trans (Option.some.inj (hd 0 _ 18 rfl rfl ⟨⟨0,.data⟩,by simp,rfl,rfl⟩)).symm;have e5:a.tmps[23]?.getD undef=.agg #[.string x.team,.string x.res]:=(az a 23).trans (Option.some.inj (hd 5 _ 23 rfl rfl ⟨⟨5,.data⟩,by simp,rfl,rfl⟩)).symm;have e15:a.tmps[33]?.getD undef=.int .i64 (wrap64 (us+x.free)):=(az a 33).trans (Option.some.inj (hd 15 _ 33 rfl rfl ⟨⟨15,.data⟩,by simp,rfl,rfl⟩)).symm;have hu:=HUP.out W (wrap64 (us+x.free)) uH;refine⟨rfl, ?_⟩;simp[execOp,go_sem,e0,e5,e15,hu]
   ·intro w9 vs vS FY _;rw[Lk.out]at FY;have Lh:Hid (Bel w w9∧aT w9 w.heap.size #[.slice (some ⟨a0,0,none⟩) L.shapes.length L.shapes.length,.slice (some ⟨a1,0,none⟩) L.mends.length L.mends.length,.slice (some ⟨a2,0,none⟩) L.teams.length L.teams.length]∧aT w9 (w.heap.size+1) #[.int .i64 K.now,.int .i64 K.tick,.int .i64 K.given,.slice (some ⟨e0,0,none⟩) K.objects.length K.objects.length,.slice (some ⟨e1,0,none⟩) K.grants.length K.grants.length,.slice (some ⟨e2,0,none⟩) K.ledgers.length K.ledgers.length,.slice (some ⟨e3,0,none⟩) K.purses.length K.purses.length]∧(w.heap.size+2)<w9.heap.size∧w9.heap[w.heap.size+2]? =some (.map (bJ K.ledgers (fun i=>b9 L K i 0) (q+1)) (q+1))):=⟨vS.below aY.out (Nat.le_add_right _ _),vS.mQ Hj.out (by omega),vS.mQ H8.out (by omega),lo sW.out.1 vS.size,FY⟩
    simp only[el,Act.put,List.setIfInBounds_toArray,List.set_cons_zero,List.set_cons_succ];generalize vs 18=s18;generalize vs 19=s19;generalize vs 20=s20;generalize vs 21=s21;generalize vs 22=s22;generalize vs 23=s23;generalize vs 24=s24;generalize vs 25=s25;generalize vs 26=s26;generalize vs 27=s27;generalize vs 28=s28;generalize vs 29=s29;generalize vs 30=s30;generalize vs 31=s31;generalize vs 32=s32;generalize vs 33=s33;clear vS FY;go_wp2;go_roundw
    case rel=>exact⟨q+1,by omega,by go_num,Lh.out⟩
    case measure=>simp[intOf];omega
  ·obtain rfl:q=K.ledgers.length:=by omega
   obtain⟨_,_,aR,_,_⟩:=HI.out;have yz:=aR.lt;have y6:wr.cell? ⟨w.heap.size+1,6,none⟩=some (.slice (some ⟨e3,0,none⟩) K.purses.length K.purses.length):=aR.at_ 6;clear aR;go_wp2;clear yz y6;go_loopw [38] (fun i wq=>∃ p:Nat,p≤K.purses.length∧i=.int .i64 p∧(Bel w wq∧aT wq w.heap.size #[.slice (some ⟨a0,0,none⟩) L.shapes.length L.shapes.length,.slice (some ⟨a1,0,none⟩) L.mends.length L.mends.length,.slice (some ⟨a2,0,none⟩) L.teams.length L.teams.length]∧aT wq (w.heap.size+1) #[.int .i64 K.now,.int .i64 K.tick,.int .i64 K.given,.slice (some ⟨e0,0,none⟩) K.objects.length K.objects.length,.slice (some ⟨e1,0,none⟩) K.grants.length K.grants.length,.slice (some ⟨e2,0,none⟩) K.ledgers.length K.ledgers.length,.slice (some ⟨e3,0,none⟩) K.purses.length K.purses.length]∧(w.heap.size+2)<wq.heap.size∧wq.heap[w.heap.size+2]? =some (.map (bJ K.ledgers (fun i=>b9 L K i p) K.ledgers.length) K.ledgers.length))) (fun i _=>K.purses.length - (intOf i).toNat)
   case atStart=>exact⟨0,nz,rfl,HI.out⟩
   case round=>
    clear HI;obtain⟨p,sU,rfl,hI⟩:=hrel;have HI:=hid hI;clear hI;by_cases sF:p<K.purses.length
    ·obtain⟨x,hx⟩:∃ x,x=K.purses.getD p Ps.none:=⟨_,rfl⟩
     have bC:=(HA.out.2.1.later HI.out.1).p;have gx:=bC.lt;have eb:=bC.at_ p sF;rw[← hx]at eb;obtain⟨c0,c1,c2,c3,c4,eQ⟩:=eb;obtain⟨w4,ej⟩:∃ w4,w4=wr.alloc (.cells #[.string x.door,.string x.team,.string x.res,.int .i64 x.amount,.int .i64 x.til] 129):=⟨_,rfl⟩
     obtain⟨E,hE⟩:∃ E,E=wr.heap.size:=⟨_,rfl⟩
     have dC:Bel wr w4:=by rw[ej];exact ab br _
     have aY:=hid (aa HI.out.1 dC);have F9:Hid (aT w4 E #[.string x.door,.string x.team,.string x.res,.int .i64 x.amount,.int .i64 x.til]):=by show aT _ _ _;rw[ej];exact aT.bV _ _ _ _ hE
     have Hj:=hid (HI.out.2.1.later dC);have H8:=hid (HI.out.2.2.1.later dC);have Dn:Hid (w.heap.size+2<E):=by show _<E;rw[hE];exact HI.out.2.2.2.1
     have sW:Hid ((w.heap.size+2)<w4.heap.size∧w4.heap[w.heap.size+2]? =some (.map (bJ K.ledgers (fun i=>b9 L K i p) K.ledgers.length) K.ledgers.length)):=⟨lo HI.out.2.2.2.1 dC.size,(dC.block _ HI.out.2.2.2.1).trans HI.out.2.2.2.2⟩
     obtain⟨ix,JT⟩:∃ ix,ix=il K.ledgers x.team x.res:=⟨_,rfl⟩
     have Bj:ix<K.ledgers.length:=by rw[JT,hx];exact HA.out.2.2.2.2 p sF
     have Fl:fp (K.ledgers.getD ix Lg.none)=fp ⟨x.team,x.res,0,0⟩:=by
      have CM:il K.ledgers x.team x.res<K.ledgers.length:=by rw[← JT];exact Bj
      have h3:kP x.team x.res (K.ledgers[il K.ledgers x.team x.res]'CM)=true:=List.findIdx_getElem (w:=CM);have h4:=(l6 x.team x.res _).1 h3;have e:K.ledgers.getD ix Lg.none=K.ledgers[il K.ledgers x.team x.res]'CM:=by
       subst JT;simp[Bj]
      rw[e];generalize K.ledgers[il K.ledgers x.team x.res]'CM=z at h4;unfold fp;rw[jC (Prod.mk.inj h4).1,jC (Prod.mk.inj h4).2]
     have lW:Lg.sized ⟨x.team,x.res,0,0⟩:=⟨eQ.2.1,eQ.2.2⟩
     have AN:Hid (∀ W,(Instr.findKey 157 (fp ⟨x.team,x.res,0,0⟩) (bJ K.ledgers (fun i=>b9 L K i p) K.ledgers.length).toList).run Tryz.prog W=.ok (some (ix,.int .i64 (b9 L K ix p))) W):=fun W=>by
      rcases og K.ledgers (fun i=>b9 L K i p) K.ledgers.length W ⟨x.team,x.res,0,0⟩ lW nr HA.out.2.2.1 with h|⟨i,hi,hr,he⟩
      ·exact absurd Fl (h.2 ix Bj)
      ·obtain rfl:=HA.out.2.2.2.1 i ix hi Bj (he.trans Fl.symm);exact hr
     have HEN:Hid ((bJ K.ledgers (fun i=>b9 L K i p) K.ledgers.length)[ix]? =some ⟨fp ⟨x.team,x.res,0,0⟩,.int .i64 (b9 L K ix p),ix⟩):=by
      show _=_;rw[ir _ _ _ _ Bj];unfold qv;rw[← Fl];rfl
     obtain⟨cu,yf⟩:∃ cu,cu=b9 L K ix p:=⟨_,rfl⟩
     have sY:Hid (∀ W,W.heap[w.heap.size+2]? =some (.map (bJ K.ledgers (fun i=>b9 L K i p) K.ledgers.length) K.ledgers.length)→(Instr.lookup 154 (.map (some (w.heap.size+2))) (.agg #[.string x.team,.string x.res]) false).run Tryz.prog W=.ok (.int .i64 cu) W):=fun W hb=>by
      rw[yf];exact rN _ _ (w.heap.size+2) ix W ⟨x.team,x.res,0,0⟩ _ lW hb (AN.out W)
     have HME:Hid (∀ W,W.heap[w.heap.size+2]? =some (.map (bJ K.ledgers (fun i=>b9 L K i p) K.ledgers.length) K.ledgers.length)→(Instr.mapEntry 154 (.map (some (w.heap.size+2))) (.agg #[.string x.team,.string x.res])).run Tryz.prog W=.ok (.tuple #[.int .i64 cu,.int .i64 (ix:Nat)]) W):=fun W hb=>by
      rw[yf];exact vX _ _ (w.heap.size+2) ix ix W ⟨x.team,x.res,0,0⟩ _ lW hb (AN.out W) HEN.out
     have mW:Hid (∀ W (v:Int),W.heap[w.heap.size+2]? =some (.map (bJ K.ledgers (fun i=>b9 L K i p) K.ledgers.length) K.ledgers.length)→(Instr.entryStore 154 (.map (some (w.heap.size+2))) (.int .i64 (ix:Nat)) (.int .i64 v)).run Tryz.prog W=.ok () (kI W (w.heap.size+2) (.map ((bJ K.ledgers (fun i=>b9 L K i p) K.ledgers.length).modify ix fun e=>{e with val:=.int .i64 v}) K.ledgers.length))):=fun W v hb=>wu _ _ (w.heap.size+2) ix W (.int .i64 v) hb (ui _ _ _ _ Bj);have Lk:Hid (((bJ K.ledgers (fun i=>b9 L K i p) K.ledgers.length).modify ix fun e=>{e with val:=.int .i64 (wrap64 (cu+x.amount))})=bJ K.ledgers (fun i=>b9 L K i (p+1)) K.ledgers.length):=by
      show _=_;rw[xd];refine wO _ fun j hj=> ?_;show (if j=ix then wrap64 (cu+x.amount) else b9 L K j p)=b9 L K j (p+1);rw[b9,← hx];by_cases hji:j=ix
      ·subst hji;unfold fp at Fl;have h0:=rX (x:=K.ledgers.getD j Lg.none) (y:=⟨x.team,x.res,0,0⟩) Fl;rw[if_pos rfl,yf,if_pos (by rw[h0.1,h0.2];simp)]
      ·rw[if_neg hji,if_neg];intro hh;simp only[Bool.and_eq_true,beq_iff_eq]at hh;refine hji (HA.out.2.2.2.1 j ix hj Bj ?_);rw[Fl];unfold fp;rw[jC hh.1,jC hh.2]
     clear hx bC eQ JT Bj Fl lW yf;obtain⟨_,_,aR,_,_⟩:=HI.out;have yz:=aR.lt;go_upto_region 10 with fail
     rw[← ej,← hE];clear ej hE c0 c1 c2 c3 c4 gx yz aR;refine oq (w.heap.size+2) 12 (.map (bJ K.ledgers (fun i=>b9 L K i p) K.ledgers.length) K.ledgers.length) (.map ((bJ K.ledgers (fun i=>b9 L K i p) K.ledgers.length).modify ix fun e=>{e with val:=.int .i64 (wrap64 (cu+x.amount))}) K.ledgers.length) sW.out.1 sW.out.2 (VL [.map (some (w.heap.size+2)),.pointer (some ⟨E,1,none⟩),.string x.team,.pointer (some ⟨E,2,none⟩),.string x.res,.agg #[.string x.team,.string x.res],.int .i64 cu,.pointer (some ⟨E,3,none⟩),.int .i64 x.amount,.int .i64 (wrap64 (cu+x.amount)),.tuple #[.int .i64 cu,.int .i64 (ix:Nat)],.int .i64 (ix:Nat)]) (by kernel_rfl) (by kernel_rfl) (by kernel_rfl) (by kernel_rfl) (by decide) ?_ ?_ ?_
     ·intro LL i o bC ho hi sP a W hW uH hk hd;have et5:a.tmps[5]?.getD undef=.map (some (w.heap.size+2)):=(az a 5).trans ((hk 5 rfl).trans rfl);have et9:a.tmps[9]?.getD undef=.pointer (some ⟨E,0,none⟩):=(az a 9).trans ((hk 9 rfl).trans rfl);have hE:=hW.mQ F9.out (by have:=Dn.out;omega);have jq:=hE.lt;have x0:W.cell? ⟨E,0,none⟩=some (.string x.door):=hE.at_ 0;have x1:W.cell? ⟨E,1,none⟩=some (.string x.team):=hE.at_ 1;have x2:W.cell? ⟨E,2,none⟩=some (.string x.res):=hE.at_ 2;have x3:W.cell? ⟨E,3,none⟩=some (.int .i64 x.amount):=hE.at_ 3;have x4:W.cell? ⟨E,4,none⟩=some (.int .i64 x.til):=hE.at_ 4;match i,ho with
      |0,ho=>
       injection ho with ho;subst ho
       exact Or.inl ⟨_,W,by simp[execOp,go_sem,et5],br,rfl⟩
      |1,ho=>
       injection ho with ho;subst ho
       exact Or.inl ⟨_,W,by simp[execOp,go_sem,et9],br,rfl⟩
      |2,ho=>
       injection ho with ho;subst ho
       have e1:a.tmps[43]?.getD undef=.pointer (some ⟨E,1,none⟩):=(az a 43).trans (Option.some.inj (hd 1 _ 43 rfl rfl ⟨⟨1,.data⟩,by simp,rfl,rfl⟩)).symm;exact Or.inl ⟨_,W,by simp[execOp,go_sem,e1,x1],br,rfl⟩
      |3,ho=>
       injection ho with ho;subst ho
       exact Or.inl ⟨_,W,by simp[execOp,go_sem,et9],br,rfl⟩
      |4,ho=>
       injection ho with ho;subst ho
       have e3:a.tmps[45]?.getD undef=.pointer (some ⟨E,2,none⟩):=(az a 45).trans (Option.some.inj (hd 3 _ 45 rfl rfl ⟨⟨3,.data⟩,by simp,rfl,rfl⟩)).symm;exact Or.inl ⟨_,W,by simp[execOp,go_sem,e3,x2],br,rfl⟩
      |5,ho=>
       injection ho with ho;subst ho
       have e2:a.tmps[44]?.getD undef=.string x.team:=(az a 44).trans (Option.some.inj (hd 2 _ 44 rfl rfl ⟨⟨2,.data⟩,by simp,rfl,rfl⟩)).symm;have e4:a.tmps[46]?.getD undef=.string x.res:=(az a 46).trans (Option.some.inj (hd 4 _ 46 rfl rfl ⟨⟨4,.data⟩,by simp,rfl,rfl⟩)).symm;exact Or.inl ⟨_,W,by simp[execOp,go_sem,e2,e4],br,rfl⟩
      |6,ho=>
       injection ho with ho;subst ho
       have e0:a.tmps[42]?.getD undef=.map (some (w.heap.size+2)):=(az a 42).trans (Option.some.inj (hd 0 _ 42 rfl rfl ⟨⟨0,.data⟩,by simp,rfl,rfl⟩)).symm;have e5:a.tmps[47]?.getD undef=.agg #[.string x.team,.string x.res]:=(az a 47).trans (Option.some.inj (hd 5 _ 47 rfl rfl ⟨⟨5,.data⟩,by simp,rfl,rfl⟩)).symm;have CY:LL.getD 12 false=false:=by
        cases jr:LL.getD 12 false
        ·rfl
        ·exfalso;have g1:=sP 12 _ ⟨9,.data⟩ rfl (by simp) rfl jr;have g2:=sP 9 _ ⟨6,.data⟩ rfl (by simp) rfl g1;have g3:=ku hi;rw[g2]at g3;cases g3
       have GG:=sY.out W (uH CY);exact Or.inl ⟨_,W,by simp[execOp,go_sem,e0,e5,GG],br,rfl⟩
      |7,ho=>
       injection ho with ho;subst ho
       exact Or.inl ⟨_,W,by simp[execOp,go_sem,et9],br,rfl⟩
      |8,ho=>
       injection ho with ho;subst ho
       have e7:a.tmps[49]?.getD undef=.pointer (some ⟨E,3,none⟩):=(az a 49).trans (Option.some.inj (hd 7 _ 49 rfl rfl ⟨⟨7,.data⟩,by simp,rfl,rfl⟩)).symm;exact Or.inl ⟨_,W,by simp[execOp,go_sem,e7,x3],br,rfl⟩
      |9,ho=>
       injection ho with ho;subst ho
       have e6:a.tmps[48]?.getD undef=.int .i64 cu:=(az a 48).trans (Option.some.inj (hd 6 _ 48 rfl rfl ⟨⟨6,.data⟩,by simp,rfl,rfl⟩)).symm;have e8:a.tmps[50]?.getD undef=.int .i64 x.amount:=(az a 50).trans (Option.some.inj (hd 8 _ 50 rfl rfl ⟨⟨8,.data⟩,by simp,rfl,rfl⟩)).symm;exact Or.inl ⟨.int .i64 (wrap64 (cu+x.amount)),W,by simp[execOp,go_sem,e6,e8,p7],br,rfl⟩
      |10,ho=>
       injection ho with ho;subst ho
       have e0:a.tmps[42]?.getD undef=.map (some (w.heap.size+2)):=(az a 42).trans (Option.some.inj (hd 0 _ 42 rfl rfl ⟨⟨0,.data⟩,by simp,rfl,rfl⟩)).symm;have e5:a.tmps[47]?.getD undef=.agg #[.string x.team,.string x.res]:=(az a 47).trans (Option.some.inj (hd 5 _ 47 rfl rfl ⟨⟨5,.data⟩,by simp,rfl,rfl⟩)).symm;have CY:LL.getD 12 false=false:=by
        cases jr:LL.getD 12 false
        ·rfl
        ·exfalso;have g1:=sP 12 _ ⟨11,.data⟩ rfl (by simp) rfl jr;have g2:=sP 11 _ ⟨10,.data⟩ rfl (by simp) rfl g1;have g3:=ku hi;rw[g2]at g3;cases g3
       have hme:=HME.out W (uH CY);exact Or.inl ⟨_,W,by simp[execOp,go_sem,e0,e5,hme],br,rfl⟩
      |11,ho=>
       injection ho with ho;subst ho
       have e10:a.tmps[52]?.getD undef=.tuple #[.int .i64 cu,.int .i64 (ix:Nat)]:=(az a 52).trans (Option.some.inj (hd 10 _ 52 rfl rfl ⟨⟨10,.data⟩,by simp,rfl,rfl⟩)).symm;exact Or.inl ⟨_,W,by simp[execOp,go_sem,e10],br,rfl⟩
      |12,ho=>exact absurd rfl bC
      |m+13,ho=>simp at ho
     ·intro o ho a W hW uH hk hd;have et5:a.tmps[5]?.getD undef=.map (some (w.heap.size+2)):=(az a 5).trans ((hk 5 rfl).trans rfl);have et9:a.tmps[9]?.getD undef=.pointer (some ⟨E,0,none⟩):=(az a 9).trans ((hk 9 rfl).trans rfl);have hE:=hW.mQ F9.out (by have:=Dn.out;omega);have jq:=hE.lt;have x0:W.cell? ⟨E,0,none⟩=some (.string x.door):=hE.at_ 0;have x1:W.cell? ⟨E,1,none⟩=some (.string x.team):=hE.at_ 1;have x2:W.cell? ⟨E,2,none⟩=some (.string x.res):=hE.at_ 2;have x3:W.cell? ⟨E,3,none⟩=some (.int .i64 x.amount):=hE.at_ 3;have x4:W.cell? ⟨E,4,none⟩=some (.int .i64 x.til):=hE.at_ 4;injection ho with ho;subst ho
      have e0:a.tmps[42]?.getD undef=.map (some (w.heap.size+2)):=(az a 42).trans (Option.some.inj (hd 0 _ 42 rfl rfl ⟨⟨0,.data⟩,by simp,rfl,rfl⟩)).symm;have e11:a.tmps[53]?.getD undef=.int .i64 (ix:Nat):=(az a 53).trans (Option.some.inj (hd 11 _ 53 rfl rfl ⟨⟨11,.data⟩,by simp,rfl,rfl⟩)).symm;have e9:a.tmps[51]?.getD undef=.int .i64 (wrap64 (cu+x.amount)):=(az a 51).trans (Option.some.inj (hd 9 _ 51 rfl rfl ⟨⟨9,.data⟩,by simp,rfl,rfl⟩)).symm;have hu:=mW.out W (wrap64 (cu+x.amount)) uH;refine⟨rfl, ?_⟩;simp[execOp,go_sem,e0,e11,e9,hu]
     ·intro w9 vs vS FY _;rw[Lk.out]at FY;have Lh:Hid (Bel w w9∧aT w9 w.heap.size #[.slice (some ⟨a0,0,none⟩) L.shapes.length L.shapes.length,.slice (some ⟨a1,0,none⟩) L.mends.length L.mends.length,.slice (some ⟨a2,0,none⟩) L.teams.length L.teams.length]∧aT w9 (w.heap.size+1) #[.int .i64 K.now,.int .i64 K.tick,.int .i64 K.given,.slice (some ⟨e0,0,none⟩) K.objects.length K.objects.length,.slice (some ⟨e1,0,none⟩) K.grants.length K.grants.length,.slice (some ⟨e2,0,none⟩) K.ledgers.length K.ledgers.length,.slice (some ⟨e3,0,none⟩) K.purses.length K.purses.length]∧(w.heap.size+2)<w9.heap.size∧w9.heap[w.heap.size+2]? =some (.map (bJ K.ledgers (fun i=>b9 L K i (p+1)) K.ledgers.length) K.ledgers.length)):=⟨vS.below aY.out (Nat.le_add_right _ _),vS.mQ Hj.out (by omega),vS.mQ H8.out (by omega),lo sW.out.1 vS.size,FY⟩
      simp only[el,Act.put,List.setIfInBounds_toArray,List.set_cons_zero,List.set_cons_succ];generalize vs 42=cW;generalize vs 43=cV;generalize vs 44=cG;generalize vs 45=cO;generalize vs 46=cT;generalize vs 47=cS;generalize vs 48=cQ;generalize vs 49=cH;generalize vs 50=cB;generalize vs 51=cP;generalize vs 52=cU;generalize vs 53=cX;clear vS FY;go_wp2;go_roundw
      case rel=>exact⟨p+1,by omega,by go_num,Lh.out⟩
      case measure=>simp[intOf];omega
    ·obtain rfl:p=K.purses.length:=by omega
     go_wp2;go_ret;exact⟨⟨_,rfl,by omega,HI.out.2.2.2.1,HI.out.2.2.2.2⟩,HI.out.1⟩
end Go.Proofs.YtbiokpmdghmgcaaGreat
