import Derived.DeepKeys4
import Derived.Deep.DeepCutAuto
import Derived.Test.YtbiokpmdghmgcaaGreatObI
import Derived.Test.YtbiokpmdghmgcaaGreatBkI
namespace Go.Proofs.YtbiokpmdghmgcaaGreat
open Go.RowKit Go.Deep
theorem q9:WideMaps.KeyLaw Tryz.prog 157:=deep_law_laid (m:=3) (by kernel_rfl) (by decide) (by decide+kernel) (by kernel_rfl) (by kernel_rfl)
theorem uB (a b:ByteArray):Value.formed Tryz.prog 157 (.agg #[.string a,.string b])=true:=by kernel_rfl
theorem AA:Tryz.prog.keyType 157=true:=by kernel_rfl
theorem gD:Tryz.prog.cellsOf 9=1:=by kernel_rfl
theorem Ae:Tryz.prog.cellsOf 157=2:=by kernel_rfl
theorem AN (d:Nat) (a b:ByteArray) (ha:a.size≤maxLen) (hb:b.size≤maxLen):Tryz.prog.keyLits (d+1+1) 157 [.string a,.string b]=some [Lit.string a.data.toList,Lit.string b.data.toList]:=by
 simp[Program.keyLits,Tryz.underlying157,Ae,gD,ha,hb]
theorem tsz:decide (0<Tryz.prog.types.size)=true:=by kernel_rfl
theorem nF (a b:ByteArray) (ha:a.size≤maxLen) (hb:b.size≤maxLen):∃ l,keyOf Tryz.prog 157 (.agg #[.string a,.string b])=some l:=by
 unfold keyOf;rw[Tryz.underlying157];obtain⟨d,e⟩:∃ d,Tryz.prog.types.size=d+1:=⟨Tryz.prog.types.size - 1,by have:=of_decide_eq_true tsz;omega⟩
 simp only[AA,uB,Bool.and_true,if_true,e];have:=AN d a b ha hb;rw[show (Value.agg #[Value.string a,Value.string b]).cells.toList=[.string a,.string b] from rfl,this];exact⟨_,rfl⟩
def rq (x:Lg) (v:Int) (i:Nat):MapEntry:=⟨.agg #[.string x.team,.string x.res],.int .i64 v,i⟩
def fk (x:Lg):Value:=.agg #[.string x.team,.string x.res]
theorem sI {x y:Lg} (h:fk x=fk y):x.team=y.team∧x.res=y.res:=by
 unfold fk at h;injection h with h
 have h0:=congrArg (fun a:Array Value=>a[0]?) h;have h1:=congrArg (fun a:Array Value=>a[1]?) h;simp at h0 h1;exact⟨h0,h1⟩
def bK (ls:List Lg) (f:Nat→Int) (k:Nat):Array MapEntry:=((List.range k).map fun i=>rq (ls.getD i Lg.none) (f i) i).toArray
theorem lA (ls:List Lg) (f:Nat→Int) (k:Nat):(bK ls f k).size=k:=by simp[bK]
theorem iA (ls:List Lg) (f:Nat→Int) (k i:Nat) (h:i<k):(bK ls f k)[i]? =some (rq (ls.getD i Lg.none) (f i) i):=by simp[bK,h]
theorem uW (ls:List Lg) (f:Nat→Int) (k:Nat):(bK ls f k).push (rq (ls.getD k Lg.none) (f k) k)=bK ls f (k+1):=by
 unfold bK;rw[List.range_succ,List.map_append];simp
def mv (ls:List Lg):Prop:=∀ i j,i<ls.length→j<ls.length→fk (ls.getD i Lg.none)=fk (ls.getD j Lg.none)→i=j
def kQ (ls:List Lg):Prop:=∀ i,i<ls.length→(ls.getD i Lg.none).sized
theorem nL (ls:List Lg) (f:Nat→Int) (k:Nat) (W:World) (x:Lg) (hx:x.sized) (hk:k≤ls.length) (hs:kQ ls):
  ((Instr.findKey 157 (fk x) (bK ls f k).toList).run Tryz.prog W=.ok none W∧∀ i,i<k→fk (ls.getD i Lg.none)≠fk x)∨
  ∃ i,i<k∧(Instr.findKey 157 (fk x) (bK ls f k).toList).run Tryz.prog W=.ok (some (i,.int .i64 (f i))) W∧fk (ls.getD i Lg.none)=fk x:=by
 obtain⟨l,hl⟩:=nF x.team x.res hx.1 hx.2;have hes:∀ e∈(bK ls f k).toList,∃ l,keyOf Tryz.prog 157 e.key=some l:=by
  intro e he;unfold bK at he;simp only[List.mem_map,List.mem_range]at he;obtain⟨i,hi,rfl⟩:=he;exact nF _ _ (hs i (by omega)).1 (hs i (by omega)).2
 rcases q9.find W hl _ hes with⟨h1,h2⟩|⟨j,e,h1,h2,h3⟩
 ·refine Or.inl ⟨h1,fun i hi he=> ?_⟩;have:=iA ls f k i hi;exact h2 _ (List.mem_of_getElem? (i:=i) (by simpa using this)) he
 ·have hj:j<k:=by
   have:=(List.getElem?_eq_some_iff.1 h2).1;simpa [bK]using this
  have e2:=iA ls f k j hj;have e3:(bK ls f k).toList[j]? =some (rq (ls.getD j Lg.none) (f j) j):=by simpa using e2
  rw[h2]at e3;injection e3 with e3
  subst e3;exact Or.inr ⟨j,hj,h1,h3⟩
def kX (W:World) (mb:Nat) (o:Obj):World:={W with heap:=W.heap.setIfInBounds mb o}
theorem my (W:World) (em:Bool) (x:Lg) (hx:x.sized):(Instr.checkKey em 10000 157 (fk x)).run Tryz.prog W=.ok () W:=by
 obtain⟨l,hl⟩:=nF _ _ hx.1 hx.2;exact q9.check W em hl
theorem xp (W:World) (x:Lg) (hx:x.sized):(Instr.keyThatStays (fk x) (fk x)).run Tryz.prog W=.ok (fk x) W:=by
 obtain⟨l,hl⟩:=nF _ _ hx.1 hx.2;exact q9.stays W hl
theorem CL (es:Array MapEntry) (k mb:Nat) (W:World) (x:Lg) (v:Value) (hx:x.sized) (hb:W.heap[mb]? =some (.map es k)) (hn:(Instr.findKey 157 (fk x) es.toList).run Tryz.prog W=.ok none W):
  (Instr.mapUpdate 154 (.map (some mb)) (fk x) v).run Tryz.prog W=.ok () (kX W mb (.map (es.push ⟨fk x,v,k⟩) (k+1))):=by
 have hc:=my W false x hx;simp[Instr.mapUpdate,run_underlying Tryz.underlying154,MapKept.run_getObj_map hb,hc,hn,Result.andThen,MapKept.run_setObj_map _ hb,kX]
theorem rU (es:Array MapEntry) (k mb i:Nat) (W:World) (x:Lg) (v:Value) (hx:x.sized) (hb:W.heap[mb]? =some (.map es k)) (hn:(Instr.findKey 157 (fk x) es.toList).run Tryz.prog W=.ok (some (i,v)) W):
  (Instr.lookup 154 (.map (some mb)) (fk x) false).run Tryz.prog W=.ok v W:=by
 have hc:=my W es.isEmpty x hx;simp[Instr.lookup,run_underlying Tryz.underlying154,MapKept.run_getObj_map hb,hc,hn,Result.andThen]
theorem xL (es:Array MapEntry) (k mb i bn:Nat) (W:World) (x:Lg) (v:Value) (hx:x.sized) (hb:W.heap[mb]? =some (.map es k)) (hn:(Instr.findKey 157 (fk x) es.toList).run Tryz.prog W=.ok (some (i,v)) W) (he:es[i]? =some ⟨fk x,v,bn⟩):
  (Instr.mapEntry 154 (.map (some mb)) (fk x)).run Tryz.prog W=.ok (.tuple #[v,.int .i64 (bn:Nat)]) W:=by
 have hc:=my W false x hx;have hst:=xp W x hx;have Nr:(es.modify i fun e=>{e with key:=fk x})=es:=by
  apply Array.ext_getElem?;intro j;rw[Array.getElem?_modify];split
  ·rename_i e;subst e;rw[he];rfl
  ·rfl
 have LS:kX W mb (.map es k)=W:=by
  unfold kX;have:W.heap.setIfInBounds mb (.map es k)=W.heap:=by
   apply Array.ext_getElem?;intro j;rw[Array.getElem?_setIfInBounds];split
   ·rename_i e
    subst e;split
    ·exact hb.symm
    ·rename_i h;rw[Array.getElem?_eq_none (by omega)]at hb;cases hb
   ·rfl
  rw[this]
 simp[Instr.mapEntry,run_underlying Tryz.underlying154,MapKept.run_getObj_map hb,hc,hn,he,hst,Result.andThen,MapKept.run_setObj_map _ hb,Nr,goInt];exact LS
theorem yH (es:Array MapEntry) (k mb i:Nat) (W:World) (v:Value) (hb:W.heap[mb]? =some (.map es k)) (hi:es.findIdx? (fun e=>(e.born:Int)==(i:Int))=some i):
  (Instr.entryStore 154 (.map (some mb)) (.int .i64 (i:Nat)) v).run Tryz.prog W=.ok () (kX W mb (.map (es.modify i fun e=>{e with val:=v}) k)):=by
 simp[Instr.entryStore,MapKept.run_getObj_map hb,Result.andThen,MapKept.run_setObj_map _ hb,hi,kX,asInt,asIntOf]
theorem xk (ls:List Lg) (f:Nat→Int) (k i:Nat) (v:Int):((bK ls f k).modify i fun e=>{e with val:=.int .i64 v})=bK ls (fun j=>if j=i then v else f j) k:=by
 apply Array.ext_getElem?;intro j;rw[Array.getElem?_modify];by_cases hj:j<k
 ·rw[iA _ _ _ _ hj,iA _ _ _ _ hj];split
  ·rename_i e;subst e;simp[rq]
  ·rename_i e
   rw[if_neg (fun h=>e h.symm)]
 ·have h1:(bK ls f k)[j]? =none:=Array.getElem?_eq_none (by rw[lA];omega);have h2:(bK ls (fun j=>if j=i then v else f j) k)[j]? =none:=Array.getElem?_eq_none (by rw[lA];omega);rw[h1,h2];split<;>rfl
theorem tO (ls:List Lg) (f:Nat→Int) (k i:Nat) (h:i<k):(bK ls f k).findIdx? (fun e=>(e.born:Int)==(i:Int))=some i:=by
 rw[Array.findIdx?_eq_some_iff_getElem];refine⟨by rw[lA];exact h, ?_, ?_⟩
 ·have:=iA ls f k i h;rw[Array.getElem?_eq_some_iff]at this;obtain⟨_,e⟩:=this;rw[e];simp[rq]
 ·intro j hj;have:=iA ls f k j (by omega);rw[Array.getElem?_eq_some_iff]at this;obtain⟨_,e⟩:=this;rw[e];simp[rq];omega
theorem x7 (ls:List Lg) {f g:Nat→Int} {k:Nat} (h:∀ i,i<k→f i=g i):bK ls f k=bK ls g k:=by
 unfold bK;congr 1;apply List.map_congr_left;intro i hi;rw[h i (List.mem_range.1 hi)]
theorem xX (W:World) (mb:Nat) (o:Obj):(kX W mb o).heap.size=W.heap.size:=by simp[kX]
theorem DG {W:World} {mb:Nat} (o:Obj) (h:mb<W.heap.size):(kX W mb o).heap[mb]? =some o:=by simp[kX,h]
theorem tY {W:World} {mb b:Nat} (o:Obj) (h:b≠mb):(kX W mb o).heap[b]? =W.heap[b]? :=by
 simp only[kX];rw[Array.getElem?_setIfInBounds_ne (fun e=>h e.symm)]
structure MW (v:World) (mb:Nat) (W:World):Prop where
 os:W.os=v.os
 tape:W.tape=v.tape
 output:W.output=v.output
 size:v.heap.size≤W.heap.size
 lt:mb<v.heap.size
 block:∀ b,b<v.heap.size→b≠mb→W.heap[b]? =v.heap[b]?
theorem MW.cell {v W:World} {mb b j:Nat} (h:MW v mb W) (hb:b<v.heap.size) (fe:b≠mb):W.cell? ⟨b,j,none⟩=v.cell? ⟨b,j,none⟩:=by
 unfold World.cell?;rw[h.block b hb fe]
theorem MW.nt {v W:World} {mb p:Nat} {cs:Array Value} (h:MW v mb W) (hx:aM v p cs) (fe:p≠mb):aM W p cs:=
 ⟨lo hx.lt h.size,fun j=>(h.cell hx.lt fe).trans (hx.at_ j)⟩
theorem MW.later {v W W':World} {mb:Nat} (h:MW v mb W) (hb:Bel W W'):MW v mb W':=
 ⟨hb.os.trans h.os,hb.tape.trans h.tape,hb.output.trans h.output,Nat.le_trans h.size hb.size,h.lt,fun b wZ fe=>(hb.block b (lo wZ h.size)).trans (h.block b wZ fe)⟩
theorem MW.put {v W:World} {mb:Nat} (h:MW v mb W) (o:Obj):MW v mb (YtbiokpmdghmgcaaGreat.kX W mb o):=
 ⟨h.os,h.tape,h.output,by rw[xX];exact h.size,h.lt,fun b hb fe=>(tY o fe).trans (h.block b hb fe)⟩
theorem MW.below {v W w:World} {mb:Nat} (h:MW v mb W) (hv:Bel w v) (hm:w.heap.size≤mb):Bel w W:=
 ⟨h.os.trans hv.os,h.tape.trans hv.tape,h.output.trans hv.output,Nat.le_trans hv.size h.size,fun k hk=>(h.block k (lo hk hv.size) (by omega)).trans (hv.block k hk)⟩
theorem oC {P:Program} {id:Nat} {Q:Exit→Act→World→Prop} {a0:Act} {w:World} {l:List Oper} (mb n:Nat) (o1 o2:Obj) (qE:mb<w.heap.size) (h1:w.heap[mb]? =some o1) (V:Nat→Value→Prop) (hm:P.follows .mixedOrders=true)
  (hasc:asc .any l.toArray=true) (hap:kg l=true) (eI:mB l a0.tmps.size=true) (hn:n<l.length)
  (Ea:∀ (L:Array Bool) (i:Nat) (o:Oper),i≠n→l[i]? =some o→L.getD i true=false→fj .any l.toArray L→∀ (a:Act) (W:World),MW w mb W→(L.getD n false=false→W.heap[mb]? =some o1)→(∀ k,pX l k=true→a.eval (.tmp k)=a0.eval (.tmp k))→
   (∀ (j:Nat) (o':Oper) (k:Nat),l[j]? =some o'→o'.dst=some k→(∃ e∈o.after,e.on=j∧Region.binds .any e=true)→V j (a.eval (.tmp k)))→OpR P (fun j u _=>V j u) i o a W)
  (hlast:∀ (o:Oper),l[n]? =some o→∀ (a:Act) (W:World),MW w mb W→W.heap[mb]? =some o1→(∀ k,pX l k=true→a.eval (.tmp k)=a0.eval (.tmp k))→
   (∀ (j:Nat) (o':Oper) (k:Nat),l[j]? =some o'→o'.dst=some k→(∃ e∈o.after,e.on=j∧Region.binds .any e=true)→V j (a.eval (.tmp k)))→o.dst=none∧(execOp a.eval o).run P W=.ok .skip (kX W mb o2))
  (hend:∀ (W:World) (vs:Nat→Value),MW w mb W→W.heap[mb]? =some o2→(∀ (i:Nat) (o:Oper) (k:Nat),l[i]? =some o→o.dst=some k→V i (vs k))→Q .normal (eu l a0 vs) W):
  (Code.region id l.toArray true).wp P Q a0 w:=by
 have Kc:MW w mb w.drew:=⟨rfl,rfl,rfl,nr,qE,fun _ _ _=>rfl⟩
 refine pe (fun L W=>MW w mb W∧W.heap[mb]? =some (if L.getD n false=true then o2 else o1)) (fun j u _=>V j u) hm hasc eI ⟨Kc, ?_⟩ ?_ ?_
 ·rw[jt];exact h1
 ·intro L a W i o h hc ho hi aw;have hg:=(jN eI ho).1;have JS:∀ (j:Nat) (o':Oper) (k:Nat),l[j]? =some o'→o'.dst=some k→(∃ e∈o.after,e.on=j∧Region.binds .any e=true)→V j (a.eval (.tmp k)):=fun j o' k hj hk ⟨e,he,Np,hb⟩=>h.new j o' k hj hk (by rw[← Np];exact aw e he hb);by_cases bA:i=n
  ·subst bA;have DU:L.getD i false=false:=kP hi;have Gl:W.heap[mb]? =some o1:=by have:=h.cw.2;rw[DU]at this;exact this
   obtain⟨hd,hr⟩:=hlast o ho a W h.cw.1 Gl (fun k hk=>h.lS hk) JS;refine pZ (by simpa using ho) hg hr (h.step hap eI ho hi ⟨h.cw.1.put o2, ?_⟩ (fun _ _ hx=>hx) (fun hs=>by rw[hd]at hs;cases hs));rw[ju hi];exact DG o2 (lo h.cw.1.lt h.cw.1.size)
  ·have hcn:(L.setIfInBounds i true).getD n false=L.getD n false:=getD_set_ne false bA;have EU:∀ W',Bel W W'→MW w mb W'∧W'.heap[mb]? =some (if (L.setIfInBounds i true).getD n false=true then o2 else o1):=fun W' hb=>by
    refine⟨h.cw.1.later hb, ?_⟩;rw[hcn,hb.block mb (lo h.cw.1.lt h.cw.1.size)];exact h.cw.2
   rcases Ea L i o bA ho hi hc a W h.cw.1 (fun hf=>by have:=h.cw.2;rw[hf]at this;exact this) (fun k hk=>h.lS hk) JS with⟨u,W',hr,hb,hV⟩|⟨f,args,hr,hk⟩
   ·exact bJ (by simpa using ho) hg hr (h.step hap eI ho hi (EU W' hb) (fun _ _ hx=>hx) (fun _=>hV))
   ·refine jI (by simpa using ho) hg hr (hk.mono ?_);rintro e W' ⟨u,rfl,hb,hV⟩;exact⟨u,rfl,h.step hap eI ho hi (EU W' hb) (fun _ _ hx=>hx) (fun _=>hV)⟩
 ·intro L W vs aw hC hV;refine hend W vs hC.1 ?_ hV;have:=hC.2;rw[aw n hn]at this;exact this
end Go.Proofs.YtbiokpmdghmgcaaGreat
namespace Go.Proofs.YtbiokpmdghmgcaaGreat
set_option maxRecDepth 8000
set_option maxHeartbeats 40000000
open Go.RowKit Go.Deep
def b8 (L:Lw) (K:Bk) (i:Nat):Nat→Int
 |0=>wrap64 (used L K (K.ledgers.getD i Lg.none).team (K.ledgers.getD i Lg.none).res+(K.ledgers.getD i Lg.none).free)
 |p+1=>if (((K.purses.getD p Ps.none).team.toList==(K.ledgers.getD i Lg.none).team.toList)&&((K.purses.getD p Ps.none).res.toList==(K.ledgers.getD i Lg.none).res.toList))=true then wrap64 (b8 L K i p+(K.purses.getD p Ps.none).amount) else b8 L K i p
theorem qj (n:Int):IntKind.i64.wrap n=wrap64 n:=by
 simp[IntKind.wrap,IntKind.bits,IntKind.signed,wrap64];try omega
def VL (vs:List Value) (j:Nat) (u:Value):Prop:=vs[j]? =some u
theorem jG {a b:ByteArray} (h:a.toList=b.toList):a=b:=by
 have h1:a.data.toList=b.data.toList:=by simpa [ByteArray.toList_eq]using h
 cases a;cases b;simp_all
theorem IP (L:Lw) (K:Bk) (a0 a1 a2 e0 e1 e2 e3:Nat) (w:World) (hL:fT w a0 a1 a2 L) (hK:fG w e0 e1 e2 e3 K) (hs:kQ K.ledgers) (ha:mv K.ledgers) (hp:∀ p,p<K.purses.length→ir K.ledgers (K.purses.getD p Ps.none).team (K.purses.getD p Ps.none).res<K.ledgers.length):
  Calls Tryz.prog 97 #[.agg #[.slice (some ⟨a0,0,none⟩) L.shapes.length L.shapes.length,.slice (some ⟨a1,0,none⟩) L.mends.length L.mends.length,.slice (some ⟨a2,0,none⟩) L.teams.length L.teams.length],.agg #[.int .i64 K.now,.int .i64 K.tick,.int .i64 K.given,.slice (some ⟨e0,0,none⟩) K.objects.length K.objects.length,.slice (some ⟨e1,0,none⟩) K.grants.length K.grants.length,.slice (some ⟨e2,0,none⟩) K.ledgers.length K.ledgers.length,.slice (some ⟨e3,0,none⟩) K.purses.length K.purses.length]] w fun e w'=>(∃ mb,e=.returned (.map (some mb))∧w.heap.size≤mb∧mb<w'.heap.size∧w'.heap[mb]? =some (.map (bK K.ledgers (fun i=>b8 L K i K.purses.length) K.ledgers.length) K.ledgers.length))∧Bel w w':=by
 have HA:=hid (And.intro hL (And.intro hK (And.intro hs (And.intro ha hp))));have hl:=hK.l.len;have ET:=hK.p.len;clear hL hK hs ha hp;obtain⟨w2,gQ⟩:∃ w2,w2=((w.alloc (.cells #[.slice (some ⟨a0,0,none⟩) L.shapes.length L.shapes.length,.slice (some ⟨a1,0,none⟩) L.mends.length L.mends.length,.slice (some ⟨a2,0,none⟩) L.teams.length L.teams.length] 40)).alloc (.cells #[.int .i64 K.now,.int .i64 K.tick,.int .i64 K.given,.slice (some ⟨e0,0,none⟩) K.objects.length K.objects.length,.slice (some ⟨e1,0,none⟩) K.grants.length K.grants.length,.slice (some ⟨e2,0,none⟩) K.ledgers.length K.ledgers.length,.slice (some ⟨e3,0,none⟩) K.purses.length K.purses.length] 47)).alloc (.map #[] 0):=⟨_,rfl⟩
 have vN:Hid (Bel w w2∧aM w2 w.heap.size #[.slice (some ⟨a0,0,none⟩) L.shapes.length L.shapes.length,.slice (some ⟨a1,0,none⟩) L.mends.length L.mends.length,.slice (some ⟨a2,0,none⟩) L.teams.length L.teams.length]∧aM w2 (w.heap.size+1) #[.int .i64 K.now,.int .i64 K.tick,.int .i64 K.given,.slice (some ⟨e0,0,none⟩) K.objects.length K.objects.length,.slice (some ⟨e1,0,none⟩) K.grants.length K.grants.length,.slice (some ⟨e2,0,none⟩) K.ledgers.length K.ledgers.length,.slice (some ⟨e3,0,none⟩) K.purses.length K.purses.length]∧(w.heap.size+2)<w2.heap.size∧w2.heap[w.heap.size+2]? =some (.map (bK K.ledgers (fun i=>b8 L K i 0) 0) 0)):=by
  show _∧_∧_∧_∧_;rw[gQ];refine⟨ab (ab (ab br _) _) _,((aM.bp w _ _ _ rfl).cy _).cy _,(aM.bp _ _ _ _ (by simp)).cy _,by simp, ?_⟩;have:=iw ((w.alloc (.cells #[.slice (some ⟨a0,0,none⟩) L.shapes.length L.shapes.length,.slice (some ⟨a1,0,none⟩) L.mends.length L.mends.length,.slice (some ⟨a2,0,none⟩) L.teams.length L.teams.length] 40)).alloc (.cells #[.int .i64 K.now,.int .i64 K.tick,.int .i64 K.given,.slice (some ⟨e0,0,none⟩) K.objects.length K.objects.length,.slice (some ⟨e1,0,none⟩) K.grants.length K.grants.length,.slice (some ⟨e2,0,none⟩) K.ledgers.length K.ledgers.length,.slice (some ⟨e3,0,none⟩) K.purses.length K.purses.length] 47)) (.map #[] 0);rw[show ((w.alloc (.cells #[.slice (some ⟨a0,0,none⟩) L.shapes.length L.shapes.length,.slice (some ⟨a1,0,none⟩) L.mends.length L.mends.length,.slice (some ⟨a2,0,none⟩) L.teams.length L.teams.length] 40)).alloc (.cells #[.int .i64 K.now,.int .i64 K.tick,.int .i64 K.given,.slice (some ⟨e0,0,none⟩) K.objects.length K.objects.length,.slice (some ⟨e1,0,none⟩) K.grants.length K.grants.length,.slice (some ⟨e2,0,none⟩) K.ledgers.length K.ledgers.length,.slice (some ⟨e3,0,none⟩) K.purses.length K.purses.length] 47)).heap.size=w.heap.size+2 by simp]at this;exact this
 have iL:∀ W:World,(Instr.makeMap 154 none).run Tryz.prog W=.ok (.map (some W.heap.size)) (W.alloc (.map #[] 0)):=fun W=>by kernel_rfl
 go_enter Tryz.func97,Tryz.ntmps97
 go_upto_region 2 with fail
 rw[← gQ];clear gQ iL;obtain⟨_,_,aS,_,_⟩:=vN.out;have yz:=aS.lt;have y5:w2.cell? ⟨w.heap.size+1,5,none⟩=some (.slice (some ⟨e2,0,none⟩) K.ledgers.length K.ledgers.length):=aS.at_ 5;clear aS;go_wp2;clear yz y5;go_loopw [14] (fun i wr=>∃ q:Nat,q≤K.ledgers.length∧i=.int .i64 q∧(Bel w wr∧aM wr w.heap.size #[.slice (some ⟨a0,0,none⟩) L.shapes.length L.shapes.length,.slice (some ⟨a1,0,none⟩) L.mends.length L.mends.length,.slice (some ⟨a2,0,none⟩) L.teams.length L.teams.length]∧aM wr (w.heap.size+1) #[.int .i64 K.now,.int .i64 K.tick,.int .i64 K.given,.slice (some ⟨e0,0,none⟩) K.objects.length K.objects.length,.slice (some ⟨e1,0,none⟩) K.grants.length K.grants.length,.slice (some ⟨e2,0,none⟩) K.ledgers.length K.ledgers.length,.slice (some ⟨e3,0,none⟩) K.purses.length K.purses.length]∧(w.heap.size+2)<wr.heap.size∧wr.heap[w.heap.size+2]? =some (.map (bK K.ledgers (fun i=>b8 L K i 0) q) q))) (fun i _=>K.ledgers.length - (intOf i).toNat)
 case atStart=>exact⟨0,nz,rfl,vN.out⟩
 case round=>
  obtain⟨q,hq,rfl,hI⟩:=hrel;have HI:=hid hI;clear hI;by_cases av:q<K.ledgers.length
  ·obtain⟨x,hx⟩:∃ x,x=K.ledgers.getD q Lg.none:=⟨_,rfl⟩
   have bA:=(HA.out.2.1.later HI.out.1).l;have gJ:=bA.lt;have dO:=bA.at_ q av;rw[← hx]at dO;obtain⟨c0,c1,c2,c3,eU⟩:=dO;obtain⟨w4,eo⟩:∃ w4,w4=wr.alloc (.cells #[.string x.team,.string x.res,.int .i64 x.most,.int .i64 x.free] 131):=⟨_,rfl⟩
   obtain⟨E,hE⟩:∃ E,E=wr.heap.size:=⟨_,rfl⟩
   have dD:Bel wr w4:=by rw[eo];exact ab br _
   have aZ:=hid (aa HI.out.1 dD);have Ha:Hid (aM w4 E #[.string x.team,.string x.res,.int .i64 x.most,.int .i64 x.free]):=by show aM _ _ _;rw[eo];exact aM.bp _ _ _ _ hE
   have JI:=hid (HI.out.2.1.later dD);have Ko:=hid (HI.out.2.2.1.later dD);have EB:Hid (w.heap.size+2<E):=by show _<E;rw[hE];exact HI.out.2.2.2.1
   have tx:Hid ((w.heap.size+2)<w4.heap.size∧w4.heap[w.heap.size+2]? =some (.map (bK K.ledgers (fun i=>b8 L K i 0) q) q)):=⟨lo HI.out.2.2.2.1 dD.size,(dD.block _ HI.out.2.2.2.1).trans HI.out.2.2.2.2⟩
   obtain⟨us,BK⟩:∃ us,us=used L K x.team x.res:=⟨_,rfl⟩
   have HUS:Hid (∀ W,Bel w W→Calls Tryz.prog 150 #[.agg #[.slice (some ⟨a0,0,none⟩) L.shapes.length L.shapes.length,.slice (some ⟨a1,0,none⟩) L.mends.length L.mends.length,.slice (some ⟨a2,0,none⟩) L.teams.length L.teams.length],.agg #[.int .i64 K.now,.int .i64 K.tick,.int .i64 K.given,.slice (some ⟨e0,0,none⟩) K.objects.length K.objects.length,.slice (some ⟨e1,0,none⟩) K.grants.length K.grants.length,.slice (some ⟨e2,0,none⟩) K.ledgers.length K.ledgers.length,.slice (some ⟨e3,0,none⟩) K.purses.length K.purses.length],.string x.team,.string x.res] W fun e w'=>e=.returned (.int .i64 us)∧Bel W w'):=fun W hW=>by
    rw[BK];exact IK L K a0 a1 a2 e0 e1 e2 e3 x.team x.res W (HA.out.1.later hW) (HA.out.2.1.later hW)
   have HUP:Hid (∀ W (v:Int),W.heap[w.heap.size+2]? =some (.map (bK K.ledgers (fun i=>b8 L K i 0) q) q)→(Instr.mapUpdate 154 (.map (some (w.heap.size+2))) (.agg #[.string x.team,.string x.res]) (.int .i64 v)).run Tryz.prog W=.ok () (kX W (w.heap.size+2) (.map ((bK K.ledgers (fun i=>b8 L K i 0) q).push ⟨fk x,.int .i64 v,q⟩) (q+1)))):=fun W v hb=>by
    refine CL _ q (w.heap.size+2) W x (.int .i64 v) eU hb ?_;rcases nL K.ledgers (fun i=>b8 L K i 0) q W x eU (by omega) HA.out.2.2.1 with h|⟨i,hi,_,he⟩
    ·exact h.1
    ·rw[hx]at he;exact absurd (HA.out.2.2.2.1 i q (by omega) av he) (by omega)
   have LU:Hid ((bK K.ledgers (fun i=>b8 L K i 0) q).push ⟨fk x,.int .i64 (wrap64 (us+x.free)),q⟩=bK K.ledgers (fun i=>b8 L K i 0) (q+1)):=by
    show _=_;rw[← uW];unfold rq fk;rw[BK,hx];rfl
   clear hx bA BK eU;obtain⟨_,_,aS,_,_⟩:=HI.out;have yz:=aS.lt;go_upto_region 5 with fail
   rw[← eo,← hE];clear eo hE c0 c1 c2 c3 gJ yz aS;refine oC (w.heap.size+2) 16 (.map (bK K.ledgers (fun i=>b8 L K i 0) q) q) (.map ((bK K.ledgers (fun i=>b8 L K i 0) q).push ⟨fk x,.int .i64 (wrap64 (us+x.free)),q⟩) (q+1)) tx.out.1 tx.out.2 (VL [.map (some (w.heap.size+2)),.pointer (some ⟨E,0,none⟩),.string x.team,.pointer (some ⟨E,1,none⟩),.string x.res,.agg #[.string x.team,.string x.res],.agg #[.slice (some ⟨a0,0,none⟩) L.shapes.length L.shapes.length,.slice (some ⟨a1,0,none⟩) L.mends.length L.mends.length,.slice (some ⟨a2,0,none⟩) L.teams.length L.teams.length],.agg #[.int .i64 K.now,.int .i64 K.tick,.int .i64 K.given,.slice (some ⟨e0,0,none⟩) K.objects.length K.objects.length,.slice (some ⟨e1,0,none⟩) K.grants.length K.grants.length,.slice (some ⟨e2,0,none⟩) K.ledgers.length K.ledgers.length,.slice (some ⟨e3,0,none⟩) K.purses.length K.purses.length],.pointer (some ⟨E,0,none⟩),.string x.team,.pointer (some ⟨E,1,none⟩),.string x.res,.int .i64 us,.pointer (some ⟨E,3,none⟩),.int .i64 x.free,.int .i64 (wrap64 (us+x.free))]) (by kernel_rfl) (by kernel_rfl) (by kernel_rfl) (by kernel_rfl) (by decide) ?_ ?_ ?_
   ·intro LL i o bA ho hi tg a W hW vp hk hd;have et5:a.tmps[5]?.getD undef=.map (some (w.heap.size+2)):=(ay a 5).trans ((hk 5 rfl).trans rfl);have et7:a.tmps[7]?.getD undef=.pointer (some ⟨E,0,none⟩):=(ay a 7).trans ((hk 7 rfl).trans rfl);have et2:a.tmps[2]?.getD undef=.pointer (some ⟨w.heap.size,0,none⟩):=(ay a 2).trans ((hk 2 rfl).trans rfl);have et3:a.tmps[3]?.getD undef=.pointer (some ⟨w.heap.size+1,0,none⟩):=(ay a 3).trans ((hk 3 rfl).trans rfl);have hE:=hW.nt Ha.out (by have:=EB.out;omega);have D6:=hW.nt JI.out (by omega);have ny:=hW.nt Ko.out (by omega);have jr:=hE.lt;have gX:=D6.lt;have xd:=ny.lt;have fu:=hW.below aZ.out (Nat.le_add_right _ _);have x0:W.cell? ⟨E,0,none⟩=some (.string x.team):=hE.at_ 0;have x1:W.cell? ⟨E,1,none⟩=some (.string x.res):=hE.at_ 1;have x2:W.cell? ⟨E,2,none⟩=some (.int .i64 x.most):=hE.at_ 2;have x3:W.cell? ⟨E,3,none⟩=some (.int .i64 x.free):=hE.at_ 3;have l0:W.cell? ⟨w.heap.size,0,none⟩=some (.slice (some ⟨a0,0,none⟩) L.shapes.length L.shapes.length):=D6.at_ 0;have l1:W.cell? ⟨w.heap.size,1,none⟩=some (.slice (some ⟨a1,0,none⟩) L.mends.length L.mends.length):=D6.at_ 1;have l2:W.cell? ⟨w.heap.size,2,none⟩=some (.slice (some ⟨a2,0,none⟩) L.teams.length L.teams.length):=D6.at_ 2;have y0:W.cell? ⟨w.heap.size+1,0,none⟩=some (.int .i64 K.now):=ny.at_ 0;have y1:W.cell? ⟨w.heap.size+1,1,none⟩=some (.int .i64 K.tick):=ny.at_ 1;have y2:W.cell? ⟨w.heap.size+1,2,none⟩=some (.int .i64 K.given):=ny.at_ 2;have y3:W.cell? ⟨w.heap.size+1,3,none⟩=some (.slice (some ⟨e0,0,none⟩) K.objects.length K.objects.length):=ny.at_ 3;have y4:W.cell? ⟨w.heap.size+1,4,none⟩=some (.slice (some ⟨e1,0,none⟩) K.grants.length K.grants.length):=ny.at_ 4;have y5:W.cell? ⟨w.heap.size+1,5,none⟩=some (.slice (some ⟨e2,0,none⟩) K.ledgers.length K.ledgers.length):=ny.at_ 5;have y6:W.cell? ⟨w.heap.size+1,6,none⟩=some (.slice (some ⟨e3,0,none⟩) K.purses.length K.purses.length):=ny.at_ 6;match i,ho with
    |0,ho=>
     injection ho with ho;subst ho
     exact Or.inl ⟨_,W,by simp[execOp,go_sem,et5],br,rfl⟩
    |1,ho=>
     injection ho with ho;subst ho
     exact Or.inl ⟨_,W,by simp[execOp,go_sem,et7],br,rfl⟩
    |2,ho=>
     injection ho with ho;subst ho
     have e1:a.tmps[19]?.getD undef=.pointer (some ⟨E,0,none⟩):=(ay a 19).trans (Option.some.inj (hd 1 _ 19 rfl rfl ⟨⟨1,.data⟩,by simp,rfl,rfl⟩)).symm;exact Or.inl ⟨_,W,by simp[execOp,go_sem,e1,x0],br,rfl⟩
    |3,ho=>
     injection ho with ho;subst ho
     exact Or.inl ⟨_,W,by simp[execOp,go_sem,et7],br,rfl⟩
    |4,ho=>
     injection ho with ho;subst ho
     have e3:a.tmps[21]?.getD undef=.pointer (some ⟨E,1,none⟩):=(ay a 21).trans (Option.some.inj (hd 3 _ 21 rfl rfl ⟨⟨3,.data⟩,by simp,rfl,rfl⟩)).symm;exact Or.inl ⟨_,W,by simp[execOp,go_sem,e3,x1],br,rfl⟩
    |5,ho=>
     injection ho with ho;subst ho
     have e2:a.tmps[20]?.getD undef=.string x.team:=(ay a 20).trans (Option.some.inj (hd 2 _ 20 rfl rfl ⟨⟨2,.data⟩,by simp,rfl,rfl⟩)).symm;have e4:a.tmps[22]?.getD undef=.string x.res:=(ay a 22).trans (Option.some.inj (hd 4 _ 22 rfl rfl ⟨⟨4,.data⟩,by simp,rfl,rfl⟩)).symm;exact Or.inl ⟨_,W,by simp[execOp,go_sem,e2,e4],br,rfl⟩
    |6,ho=>
     injection ho with ho;subst ho
     exact Or.inl ⟨_,W,by simp[execOp,go_sem,et2,l0,l1,l2],br,rfl⟩
    |7,ho=>
     injection ho with ho;subst ho
     exact Or.inl ⟨_,W,by simp[execOp,go_sem,et3,y0,y1,y2,y3,y4,y5,y6],br,rfl⟩
    |8,ho=>
     injection ho with ho;subst ho
     exact Or.inl ⟨_,W,by simp[execOp,go_sem,et7],br,rfl⟩
    |9,ho=>
     injection ho with ho;subst ho
     have e8:a.tmps[26]?.getD undef=.pointer (some ⟨E,0,none⟩):=(ay a 26).trans (Option.some.inj (hd 8 _ 26 rfl rfl ⟨⟨8,.data⟩,by simp,rfl,rfl⟩)).symm;exact Or.inl ⟨_,W,by simp[execOp,go_sem,e8,x0],br,rfl⟩
    |10,ho=>
     injection ho with ho;subst ho
     exact Or.inl ⟨_,W,by simp[execOp,go_sem,et7],br,rfl⟩
    |11,ho=>
     injection ho with ho;subst ho
     have e10:a.tmps[28]?.getD undef=.pointer (some ⟨E,1,none⟩):=(ay a 28).trans (Option.some.inj (hd 10 _ 28 rfl rfl ⟨⟨10,.data⟩,by simp,rfl,rfl⟩)).symm;exact Or.inl ⟨_,W,by simp[execOp,go_sem,e10,x1],br,rfl⟩
    |12,ho=>
     injection ho with ho;subst ho
     have e6:a.tmps[24]?.getD undef=.agg #[.slice (some ⟨a0,0,none⟩) L.shapes.length L.shapes.length,.slice (some ⟨a1,0,none⟩) L.mends.length L.mends.length,.slice (some ⟨a2,0,none⟩) L.teams.length L.teams.length]:=(ay a 24).trans (Option.some.inj (hd 6 _ 24 rfl rfl ⟨⟨6,.data⟩,by simp,rfl,rfl⟩)).symm;have e7:a.tmps[25]?.getD undef=.agg #[.int .i64 K.now,.int .i64 K.tick,.int .i64 K.given,.slice (some ⟨e0,0,none⟩) K.objects.length K.objects.length,.slice (some ⟨e1,0,none⟩) K.grants.length K.grants.length,.slice (some ⟨e2,0,none⟩) K.ledgers.length K.ledgers.length,.slice (some ⟨e3,0,none⟩) K.purses.length K.purses.length]:=(ay a 25).trans (Option.some.inj (hd 7 _ 25 rfl rfl ⟨⟨7,.data⟩,by simp,rfl,rfl⟩)).symm;have e9:a.tmps[27]?.getD undef=.string x.team:=(ay a 27).trans (Option.some.inj (hd 9 _ 27 rfl rfl ⟨⟨9,.data⟩,by simp,rfl,rfl⟩)).symm;have e11:a.tmps[29]?.getD undef=.string x.res:=(ay a 29).trans (Option.some.inj (hd 11 _ 29 rfl rfl ⟨⟨11,.data⟩,by simp,rfl,rfl⟩)).symm;refine Or.inr ⟨150,#[.agg #[.slice (some ⟨a0,0,none⟩) L.shapes.length L.shapes.length,.slice (some ⟨a1,0,none⟩) L.mends.length L.mends.length,.slice (some ⟨a2,0,none⟩) L.teams.length L.teams.length],.agg #[.int .i64 K.now,.int .i64 K.tick,.int .i64 K.given,.slice (some ⟨e0,0,none⟩) K.objects.length K.objects.length,.slice (some ⟨e1,0,none⟩) K.grants.length K.grants.length,.slice (some ⟨e2,0,none⟩) K.ledgers.length K.ledgers.length,.slice (some ⟨e3,0,none⟩) K.purses.length K.purses.length],.string x.team,.string x.res],by simp[go_sem,e6,e7,e9,e11],(HUS.out W fu).mono ?_⟩;rintro e W' ⟨rfl,hb⟩;exact⟨_,rfl,hb,rfl⟩
    |13,ho=>
     injection ho with ho;subst ho
     exact Or.inl ⟨_,W,by simp[execOp,go_sem,et7],br,rfl⟩
    |14,ho=>
     injection ho with ho;subst ho
     have e13:a.tmps[31]?.getD undef=.pointer (some ⟨E,3,none⟩):=(ay a 31).trans (Option.some.inj (hd 13 _ 31 rfl rfl ⟨⟨13,.data⟩,by simp,rfl,rfl⟩)).symm;exact Or.inl ⟨_,W,by simp[execOp,go_sem,e13,x3],br,rfl⟩
    |15,ho=>
     injection ho with ho;subst ho
     have e12:a.tmps[30]?.getD undef=.int .i64 us:=(ay a 30).trans (Option.some.inj (hd 12 _ 30 rfl rfl ⟨⟨12,.data⟩,by simp,rfl,rfl⟩)).symm;have e14:a.tmps[32]?.getD undef=.int .i64 x.free:=(ay a 32).trans (Option.some.inj (hd 14 _ 32 rfl rfl ⟨⟨14,.data⟩,by simp,rfl,rfl⟩)).symm;exact Or.inl ⟨.int .i64 (wrap64 (us+x.free)),W,by simp[execOp,go_sem,e12,e14,qj],br,rfl⟩
    |16,ho=>exact absurd rfl bA
    |m+17,ho=>simp at ho
   ·intro o ho a W hW vp hk hd;have et5:a.tmps[5]?.getD undef=.map (some (w.heap.size+2)):=(ay a 5).trans ((hk 5 rfl).trans rfl);have et7:a.tmps[7]?.getD undef=.pointer (some ⟨E,0,none⟩):=(ay a 7).trans ((hk 7 rfl).trans rfl);have et2:a.tmps[2]?.getD undef=.pointer (some ⟨w.heap.size,0,none⟩):=(ay a 2).trans ((hk 2 rfl).trans rfl);have et3:a.tmps[3]?.getD undef=.pointer (some ⟨w.heap.size+1,0,none⟩):=(ay a 3).trans ((hk 3 rfl).trans rfl);have hE:=hW.nt Ha.out (by have:=EB.out;omega);have D6:=hW.nt JI.out (by omega);have ny:=hW.nt Ko.out (by omega);have jr:=hE.lt;have gX:=D6.lt;have xd:=ny.lt;have fu:=hW.below aZ.out (Nat.le_add_right _ _);have x0:W.cell? ⟨E,0,none⟩=some (.string x.team):=hE.at_ 0;have x1:W.cell? ⟨E,1,none⟩=some (.string x.res):=hE.at_ 1;have x2:W.cell? ⟨E,2,none⟩=some (.int .i64 x.most):=hE.at_ 2;have x3:W.cell? ⟨E,3,none⟩=some (.int .i64 x.free):=hE.at_ 3;have l0:W.cell? ⟨w.heap.size,0,none⟩=some (.slice (some ⟨a0,0,none⟩) L.shapes.length L.shapes.length):=D6.at_ 0;have l1:W.cell? ⟨w.heap.size,1,none⟩=some (.slice (some ⟨a1,0,none⟩) L.mends.length L.mends.length):=D6.at_ 1;have l2:W.cell? ⟨w.heap.size,2,none⟩=some (.slice (some ⟨a2,0,none⟩) L.teams.length L.teams.length):=D6.at_ 2;have y0:W.cell? ⟨w.heap.size+1,0,none⟩=some (.int .i64 K.now):=ny.at_ 0;have y1:W.cell? ⟨w.heap.size+1,1,none⟩=some (.int .i64 K.tick):=ny.at_ 1;have y2:W.cell? ⟨w.heap.size+1,2,none⟩=some (.int .i64 K.given):=ny.at_ 2;have y3:W.cell? ⟨w.heap.size+1,3,none⟩=some (.slice (some ⟨e0,0,none⟩) K.objects.length K.objects.length):=ny.at_ 3;have y4:W.cell? ⟨w.heap.size+1,4,none⟩=some (.slice (some ⟨e1,0,none⟩) K.grants.length K.grants.length):=ny.at_ 4;have y5:W.cell? ⟨w.heap.size+1,5,none⟩=some (.slice (some ⟨e2,0,none⟩) K.ledgers.length K.ledgers.length):=ny.at_ 5;have y6:W.cell? ⟨w.heap.size+1,6,none⟩=some (.slice (some ⟨e3,0,none⟩) K.purses.length K.purses.length):=ny.at_ 6;injection ho with ho;subst ho
    have e0:a.tmps[18]?.getD undef=.map (some (w.heap.size+2)):=(ay a 18).trans (Option.some.inj (hd 0 _ 18 rfl rfl ⟨⟨0,.data⟩,by simp,rfl,rfl⟩)).symm;have e5:a.tmps[23]?.getD undef=.agg #[.string x.team,.string x.res]:=(ay a 23).trans (Option.some.inj (hd 5 _ 23 rfl rfl ⟨⟨5,.data⟩,by simp,rfl,rfl⟩)).symm;have e15:a.tmps[33]?.getD undef=.int .i64 (wrap64 (us+x.free)):=(ay a 33).trans (Option.some.inj (hd 15 _ 33 rfl rfl ⟨⟨15,.data⟩,by simp,rfl,rfl⟩)).symm;have hu:=HUP.out W (wrap64 (us+x.free)) vp;refine⟨rfl, ?_⟩;simp[execOp,go_sem,e0,e5,e15,hu]
   ·intro w9 vs xg Ga _;rw[LU.out]at Ga;have LR:Hid (Bel w w9∧aM w9 w.heap.size #[.slice (some ⟨a0,0,none⟩) L.shapes.length L.shapes.length,.slice (some ⟨a1,0,none⟩) L.mends.length L.mends.length,.slice (some ⟨a2,0,none⟩) L.teams.length L.teams.length]∧aM w9 (w.heap.size+1) #[.int .i64 K.now,.int .i64 K.tick,.int .i64 K.given,.slice (some ⟨e0,0,none⟩) K.objects.length K.objects.length,.slice (some ⟨e1,0,none⟩) K.grants.length K.grants.length,.slice (some ⟨e2,0,none⟩) K.ledgers.length K.ledgers.length,.slice (some ⟨e3,0,none⟩) K.purses.length K.purses.length]∧(w.heap.size+2)<w9.heap.size∧w9.heap[w.heap.size+2]? =some (.map (bK K.ledgers (fun i=>b8 L K i 0) (q+1)) (q+1))):=⟨xg.below aZ.out (Nat.le_add_right _ _),xg.nt JI.out (by omega),xg.nt Ko.out (by omega),lo tx.out.1 xg.size,Ga⟩
    simp only[eu,Act.put,List.setIfInBounds_toArray,List.set_cons_zero,List.set_cons_succ];generalize vs 18=s18;generalize vs 19=s19;generalize vs 20=s20;generalize vs 21=s21;generalize vs 22=s22;generalize vs 23=s23;generalize vs 24=s24;generalize vs 25=s25;generalize vs 26=s26;generalize vs 27=s27;generalize vs 28=s28;generalize vs 29=s29;generalize vs 30=s30;generalize vs 31=s31;generalize vs 32=s32;generalize vs 33=s33;clear xg Ga;go_wp2;go_roundw
    case rel=>exact⟨q+1,by omega,by go_num,LR.out⟩
    case measure=>simp[intOf];omega
  ·obtain rfl:q=K.ledgers.length:=by omega
   obtain⟨_,_,aS,_,_⟩:=HI.out;have yz:=aS.lt;have y6:wr.cell? ⟨w.heap.size+1,6,none⟩=some (.slice (some ⟨e3,0,none⟩) K.purses.length K.purses.length):=aS.at_ 6;clear aS;go_wp2;clear yz y6;go_loopw [38] (fun i wq=>∃ p:Nat,p≤K.purses.length∧i=.int .i64 p∧(Bel w wq∧aM wq w.heap.size #[.slice (some ⟨a0,0,none⟩) L.shapes.length L.shapes.length,.slice (some ⟨a1,0,none⟩) L.mends.length L.mends.length,.slice (some ⟨a2,0,none⟩) L.teams.length L.teams.length]∧aM wq (w.heap.size+1) #[.int .i64 K.now,.int .i64 K.tick,.int .i64 K.given,.slice (some ⟨e0,0,none⟩) K.objects.length K.objects.length,.slice (some ⟨e1,0,none⟩) K.grants.length K.grants.length,.slice (some ⟨e2,0,none⟩) K.ledgers.length K.ledgers.length,.slice (some ⟨e3,0,none⟩) K.purses.length K.purses.length]∧(w.heap.size+2)<wq.heap.size∧wq.heap[w.heap.size+2]? =some (.map (bK K.ledgers (fun i=>b8 L K i p) K.ledgers.length) K.ledgers.length))) (fun i _=>K.purses.length - (intOf i).toNat)
   case atStart=>exact⟨0,nz,rfl,HI.out⟩
   case round=>
    clear HI;obtain⟨p,tD,rfl,hI⟩:=hrel;have HI:=hid hI;clear hI;by_cases tt:p<K.purses.length
    ·obtain⟨x,hx⟩:∃ x,x=K.purses.getD p Ps.none:=⟨_,rfl⟩
     have bA:=(HA.out.2.1.later HI.out.1).p;have gJ:=bA.lt;have dO:=bA.at_ p tt;rw[← hx]at dO;obtain⟨c0,c1,c2,c3,c4,eU⟩:=dO;obtain⟨w4,eo⟩:∃ w4,w4=wr.alloc (.cells #[.string x.door,.string x.team,.string x.res,.int .i64 x.amount,.int .i64 x.til] 129):=⟨_,rfl⟩
     obtain⟨E,hE⟩:∃ E,E=wr.heap.size:=⟨_,rfl⟩
     have dD:Bel wr w4:=by rw[eo];exact ab br _
     have aZ:=hid (aa HI.out.1 dD);have Ha:Hid (aM w4 E #[.string x.door,.string x.team,.string x.res,.int .i64 x.amount,.int .i64 x.til]):=by show aM _ _ _;rw[eo];exact aM.bp _ _ _ _ hE
     have JI:=hid (HI.out.2.1.later dD);have Ko:=hid (HI.out.2.2.1.later dD);have EB:Hid (w.heap.size+2<E):=by show _<E;rw[hE];exact HI.out.2.2.2.1
     have tx:Hid ((w.heap.size+2)<w4.heap.size∧w4.heap[w.heap.size+2]? =some (.map (bK K.ledgers (fun i=>b8 L K i p) K.ledgers.length) K.ledgers.length)):=⟨lo HI.out.2.2.2.1 dD.size,(dD.block _ HI.out.2.2.2.1).trans HI.out.2.2.2.2⟩
     obtain⟨ix,KJ⟩:∃ ix,ix=ir K.ledgers x.team x.res:=⟨_,rfl⟩
     have Cd:ix<K.ledgers.length:=by rw[KJ,hx];exact HA.out.2.2.2.2 p tt
     have He:fk (K.ledgers.getD ix Lg.none)=fk ⟨x.team,x.res,0,0⟩:=by
      have hlt3:ir K.ledgers x.team x.res<K.ledgers.length:=by rw[← KJ];exact Cd
      have h3:ld x.team x.res (K.ledgers[ir K.ledgers x.team x.res]'hlt3)=true:=List.findIdx_getElem (w:=hlt3);have h4:=(mJ x.team x.res _).1 h3;have e:K.ledgers.getD ix Lg.none=K.ledgers[ir K.ledgers x.team x.res]'hlt3:=by
       subst KJ;simp[Cd]
      rw[e];generalize K.ledgers[ir K.ledgers x.team x.res]'hlt3=z at h4;unfold fk;rw[jG (Prod.mk.inj h4).1,jG (Prod.mk.inj h4).2]
     have lK:Lg.sized ⟨x.team,x.res,0,0⟩:=⟨eU.2.1,eU.2.2⟩
     have BX:Hid (∀ W,(Instr.findKey 157 (fk ⟨x.team,x.res,0,0⟩) (bK K.ledgers (fun i=>b8 L K i p) K.ledgers.length).toList).run Tryz.prog W=.ok (some (ix,.int .i64 (b8 L K ix p))) W):=fun W=>by
      rcases nL K.ledgers (fun i=>b8 L K i p) K.ledgers.length W ⟨x.team,x.res,0,0⟩ lK nr HA.out.2.2.1 with h|⟨i,hi,hr,he⟩
      ·exact absurd He (h.2 ix Cd)
      ·obtain rfl:=HA.out.2.2.2.1 i ix hi Cd (he.trans He.symm);exact hr
     have HEN:Hid ((bK K.ledgers (fun i=>b8 L K i p) K.ledgers.length)[ix]? =some ⟨fk ⟨x.team,x.res,0,0⟩,.int .i64 (b8 L K ix p),ix⟩):=by
      show _=_;rw[iA _ _ _ _ Cd];unfold rq;rw[← He];rfl
     obtain⟨cu,zh⟩:∃ cu,cu=b8 L K ix p:=⟨_,rfl⟩
     have tG:Hid (∀ W,W.heap[w.heap.size+2]? =some (.map (bK K.ledgers (fun i=>b8 L K i p) K.ledgers.length) K.ledgers.length)→(Instr.lookup 154 (.map (some (w.heap.size+2))) (.agg #[.string x.team,.string x.res]) false).run Tryz.prog W=.ok (.int .i64 cu) W):=fun W hb=>by
      rw[zh];exact rU _ _ (w.heap.size+2) ix W ⟨x.team,x.res,0,0⟩ _ lK hb (BX.out W)
     have HME:Hid (∀ W,W.heap[w.heap.size+2]? =some (.map (bK K.ledgers (fun i=>b8 L K i p) K.ledgers.length) K.ledgers.length)→(Instr.mapEntry 154 (.map (some (w.heap.size+2))) (.agg #[.string x.team,.string x.res])).run Tryz.prog W=.ok (.tuple #[.int .i64 cu,.int .i64 (ix:Nat)]) W):=fun W hb=>by
      rw[zh];exact xL _ _ (w.heap.size+2) ix ix W ⟨x.team,x.res,0,0⟩ _ lK hb (BX.out W) HEN.out
     have nA:Hid (∀ W (v:Int),W.heap[w.heap.size+2]? =some (.map (bK K.ledgers (fun i=>b8 L K i p) K.ledgers.length) K.ledgers.length)→(Instr.entryStore 154 (.map (some (w.heap.size+2))) (.int .i64 (ix:Nat)) (.int .i64 v)).run Tryz.prog W=.ok () (kX W (w.heap.size+2) (.map ((bK K.ledgers (fun i=>b8 L K i p) K.ledgers.length).modify ix fun e=>{e with val:=.int .i64 v}) K.ledgers.length))):=fun W v hb=>yH _ _ (w.heap.size+2) ix W (.int .i64 v) hb (tO _ _ _ _ Cd);have LU:Hid (((bK K.ledgers (fun i=>b8 L K i p) K.ledgers.length).modify ix fun e=>{e with val:=.int .i64 (wrap64 (cu+x.amount))})=bK K.ledgers (fun i=>b8 L K i (p+1)) K.ledgers.length):=by
      show _=_;rw[xk];refine x7 _ fun j hj=> ?_;show (if j=ix then wrap64 (cu+x.amount) else b8 L K j p)=b8 L K j (p+1);rw[b8,← hx];by_cases hji:j=ix
      ·subst hji;unfold fk at He;have h0:=sI (x:=K.ledgers.getD j Lg.none) (y:=⟨x.team,x.res,0,0⟩) He;rw[if_pos rfl,zh,if_pos (by rw[h0.1,h0.2];simp)]
      ·rw[if_neg hji,if_neg];intro hh;simp only[Bool.and_eq_true,beq_iff_eq]at hh;refine hji (HA.out.2.2.2.1 j ix hj Cd ?_);rw[He];unfold fk;rw[jG hh.1,jG hh.2]
     clear hx bA eU KJ Cd He lK zh;obtain⟨_,_,aS,_,_⟩:=HI.out;have yz:=aS.lt;go_upto_region 10 with fail
     rw[← eo,← hE];clear eo hE c0 c1 c2 c3 c4 gJ yz aS;refine oC (w.heap.size+2) 12 (.map (bK K.ledgers (fun i=>b8 L K i p) K.ledgers.length) K.ledgers.length) (.map ((bK K.ledgers (fun i=>b8 L K i p) K.ledgers.length).modify ix fun e=>{e with val:=.int .i64 (wrap64 (cu+x.amount))}) K.ledgers.length) tx.out.1 tx.out.2 (VL [.map (some (w.heap.size+2)),.pointer (some ⟨E,1,none⟩),.string x.team,.pointer (some ⟨E,2,none⟩),.string x.res,.agg #[.string x.team,.string x.res],.int .i64 cu,.pointer (some ⟨E,3,none⟩),.int .i64 x.amount,.int .i64 (wrap64 (cu+x.amount)),.tuple #[.int .i64 cu,.int .i64 (ix:Nat)],.int .i64 (ix:Nat)]) (by kernel_rfl) (by kernel_rfl) (by kernel_rfl) (by kernel_rfl) (by decide) ?_ ?_ ?_
     ·intro LL i o bA ho hi tg a W hW vp hk hd;have et5:a.tmps[5]?.getD undef=.map (some (w.heap.size+2)):=(ay a 5).trans ((hk 5 rfl).trans rfl);have et9:a.tmps[9]?.getD undef=.pointer (some ⟨E,0,none⟩):=(ay a 9).trans ((hk 9 rfl).trans rfl);have hE:=hW.nt Ha.out (by have:=EB.out;omega);have jr:=hE.lt;have x0:W.cell? ⟨E,0,none⟩=some (.string x.door):=hE.at_ 0;have x1:W.cell? ⟨E,1,none⟩=some (.string x.team):=hE.at_ 1;have x2:W.cell? ⟨E,2,none⟩=some (.string x.res):=hE.at_ 2;have x3:W.cell? ⟨E,3,none⟩=some (.int .i64 x.amount):=hE.at_ 3;have x4:W.cell? ⟨E,4,none⟩=some (.int .i64 x.til):=hE.at_ 4;match i,ho with
      |0,ho=>
       injection ho with ho;subst ho
       exact Or.inl ⟨_,W,by simp[execOp,go_sem,et5],br,rfl⟩
      |1,ho=>
       injection ho with ho;subst ho
       exact Or.inl ⟨_,W,by simp[execOp,go_sem,et9],br,rfl⟩
      |2,ho=>
       injection ho with ho;subst ho
       have e1:a.tmps[43]?.getD undef=.pointer (some ⟨E,1,none⟩):=(ay a 43).trans (Option.some.inj (hd 1 _ 43 rfl rfl ⟨⟨1,.data⟩,by simp,rfl,rfl⟩)).symm;exact Or.inl ⟨_,W,by simp[execOp,go_sem,e1,x1],br,rfl⟩
      |3,ho=>
       injection ho with ho;subst ho
       exact Or.inl ⟨_,W,by simp[execOp,go_sem,et9],br,rfl⟩
      |4,ho=>
       injection ho with ho;subst ho
       have e3:a.tmps[45]?.getD undef=.pointer (some ⟨E,2,none⟩):=(ay a 45).trans (Option.some.inj (hd 3 _ 45 rfl rfl ⟨⟨3,.data⟩,by simp,rfl,rfl⟩)).symm;exact Or.inl ⟨_,W,by simp[execOp,go_sem,e3,x2],br,rfl⟩
      |5,ho=>
       injection ho with ho;subst ho
       have e2:a.tmps[44]?.getD undef=.string x.team:=(ay a 44).trans (Option.some.inj (hd 2 _ 44 rfl rfl ⟨⟨2,.data⟩,by simp,rfl,rfl⟩)).symm;have e4:a.tmps[46]?.getD undef=.string x.res:=(ay a 46).trans (Option.some.inj (hd 4 _ 46 rfl rfl ⟨⟨4,.data⟩,by simp,rfl,rfl⟩)).symm;exact Or.inl ⟨_,W,by simp[execOp,go_sem,e2,e4],br,rfl⟩
      |6,ho=>
       injection ho with ho;subst ho
       have e0:a.tmps[42]?.getD undef=.map (some (w.heap.size+2)):=(ay a 42).trans (Option.some.inj (hd 0 _ 42 rfl rfl ⟨⟨0,.data⟩,by simp,rfl,rfl⟩)).symm;have e5:a.tmps[47]?.getD undef=.agg #[.string x.team,.string x.res]:=(ay a 47).trans (Option.some.inj (hd 5 _ 47 rfl rfl ⟨⟨5,.data⟩,by simp,rfl,rfl⟩)).symm;have DU:LL.getD 12 false=false:=by
        cases jF:LL.getD 12 false
        ·rfl
        ·exfalso;have g1:=tg 12 _ ⟨9,.data⟩ rfl (by simp) rfl jF;have g2:=tg 9 _ ⟨6,.data⟩ rfl (by simp) rfl g1;have g3:=kP hi;rw[g2]at g3;cases g3
       have Iq:=tG.out W (vp DU);exact Or.inl ⟨_,W,by simp[execOp,go_sem,e0,e5,Iq],br,rfl⟩
      |7,ho=>
       injection ho with ho;subst ho
       exact Or.inl ⟨_,W,by simp[execOp,go_sem,et9],br,rfl⟩
      |8,ho=>
       injection ho with ho;subst ho
       have e7:a.tmps[49]?.getD undef=.pointer (some ⟨E,3,none⟩):=(ay a 49).trans (Option.some.inj (hd 7 _ 49 rfl rfl ⟨⟨7,.data⟩,by simp,rfl,rfl⟩)).symm;exact Or.inl ⟨_,W,by simp[execOp,go_sem,e7,x3],br,rfl⟩
      |9,ho=>
       injection ho with ho;subst ho
       have e6:a.tmps[48]?.getD undef=.int .i64 cu:=(ay a 48).trans (Option.some.inj (hd 6 _ 48 rfl rfl ⟨⟨6,.data⟩,by simp,rfl,rfl⟩)).symm;have e8:a.tmps[50]?.getD undef=.int .i64 x.amount:=(ay a 50).trans (Option.some.inj (hd 8 _ 50 rfl rfl ⟨⟨8,.data⟩,by simp,rfl,rfl⟩)).symm;exact Or.inl ⟨.int .i64 (wrap64 (cu+x.amount)),W,by simp[execOp,go_sem,e6,e8,qj],br,rfl⟩
      |10,ho=>
       injection ho with ho;subst ho
       have e0:a.tmps[42]?.getD undef=.map (some (w.heap.size+2)):=(ay a 42).trans (Option.some.inj (hd 0 _ 42 rfl rfl ⟨⟨0,.data⟩,by simp,rfl,rfl⟩)).symm;have e5:a.tmps[47]?.getD undef=.agg #[.string x.team,.string x.res]:=(ay a 47).trans (Option.some.inj (hd 5 _ 47 rfl rfl ⟨⟨5,.data⟩,by simp,rfl,rfl⟩)).symm;have DU:LL.getD 12 false=false:=by
        cases jF:LL.getD 12 false
        ·rfl
        ·exfalso;have g1:=tg 12 _ ⟨11,.data⟩ rfl (by simp) rfl jF;have g2:=tg 11 _ ⟨10,.data⟩ rfl (by simp) rfl g1;have g3:=kP hi;rw[g2]at g3;cases g3
       have hme:=HME.out W (vp DU);exact Or.inl ⟨_,W,by simp[execOp,go_sem,e0,e5,hme],br,rfl⟩
      |11,ho=>
       injection ho with ho;subst ho
       have e10:a.tmps[52]?.getD undef=.tuple #[.int .i64 cu,.int .i64 (ix:Nat)]:=(ay a 52).trans (Option.some.inj (hd 10 _ 52 rfl rfl ⟨⟨10,.data⟩,by simp,rfl,rfl⟩)).symm;exact Or.inl ⟨_,W,by simp[execOp,go_sem,e10],br,rfl⟩
      |12,ho=>exact absurd rfl bA
      |m+13,ho=>simp at ho
     ·intro o ho a W hW vp hk hd;have et5:a.tmps[5]?.getD undef=.map (some (w.heap.size+2)):=(ay a 5).trans ((hk 5 rfl).trans rfl);have et9:a.tmps[9]?.getD undef=.pointer (some ⟨E,0,none⟩):=(ay a 9).trans ((hk 9 rfl).trans rfl);have hE:=hW.nt Ha.out (by have:=EB.out;omega);have jr:=hE.lt;have x0:W.cell? ⟨E,0,none⟩=some (.string x.door):=hE.at_ 0;have x1:W.cell? ⟨E,1,none⟩=some (.string x.team):=hE.at_ 1;have x2:W.cell? ⟨E,2,none⟩=some (.string x.res):=hE.at_ 2;have x3:W.cell? ⟨E,3,none⟩=some (.int .i64 x.amount):=hE.at_ 3;have x4:W.cell? ⟨E,4,none⟩=some (.int .i64 x.til):=hE.at_ 4;injection ho with ho;subst ho
      have e0:a.tmps[42]?.getD undef=.map (some (w.heap.size+2)):=(ay a 42).trans (Option.some.inj (hd 0 _ 42 rfl rfl ⟨⟨0,.data⟩,by simp,rfl,rfl⟩)).symm;have e11:a.tmps[53]?.getD undef=.int .i64 (ix:Nat):=(ay a 53).trans (Option.some.inj (hd 11 _ 53 rfl rfl ⟨⟨11,.data⟩,by simp,rfl,rfl⟩)).symm;have e9:a.tmps[51]?.getD undef=.int .i64 (wrap64 (cu+x.amount)):=(ay a 51).trans (Option.some.inj (hd 9 _ 51 rfl rfl ⟨⟨9,.data⟩,by simp,rfl,rfl⟩)).symm;have hu:=nA.out W (wrap64 (cu+x.amount)) vp;refine⟨rfl, ?_⟩;simp[execOp,go_sem,e0,e11,e9,hu]
     ·intro w9 vs xg Ga _;rw[LU.out]at Ga;have LR:Hid (Bel w w9∧aM w9 w.heap.size #[.slice (some ⟨a0,0,none⟩) L.shapes.length L.shapes.length,.slice (some ⟨a1,0,none⟩) L.mends.length L.mends.length,.slice (some ⟨a2,0,none⟩) L.teams.length L.teams.length]∧aM w9 (w.heap.size+1) #[.int .i64 K.now,.int .i64 K.tick,.int .i64 K.given,.slice (some ⟨e0,0,none⟩) K.objects.length K.objects.length,.slice (some ⟨e1,0,none⟩) K.grants.length K.grants.length,.slice (some ⟨e2,0,none⟩) K.ledgers.length K.ledgers.length,.slice (some ⟨e3,0,none⟩) K.purses.length K.purses.length]∧(w.heap.size+2)<w9.heap.size∧w9.heap[w.heap.size+2]? =some (.map (bK K.ledgers (fun i=>b8 L K i (p+1)) K.ledgers.length) K.ledgers.length)):=⟨xg.below aZ.out (Nat.le_add_right _ _),xg.nt JI.out (by omega),xg.nt Ko.out (by omega),lo tx.out.1 xg.size,Ga⟩
      simp only[eu,Act.put,List.setIfInBounds_toArray,List.set_cons_zero,List.set_cons_succ];generalize vs 42=da;generalize vs 43=cR;generalize vs 44=cI;generalize vs 45=cS;generalize vs 46=cW;generalize vs 47=cU;generalize vs 48=cT;generalize vs 49=cJ;generalize vs 50=cE;generalize vs 51=cY;generalize vs 52=cX;generalize vs 53=cZ;clear xg Ga;go_wp2;go_roundw
      case rel=>exact⟨p+1,by omega,by go_num,LR.out⟩
      case measure=>simp[intOf];omega
    ·obtain rfl:p=K.purses.length:=by omega
     go_wp2;go_ret;exact⟨⟨_,rfl,by omega,HI.out.2.2.2.1,HI.out.2.2.2.2⟩,HI.out.1⟩
set_option maxRecDepth 8000
set_option maxHeartbeats 40000000
open Go.RowKit Go.Deep
theorem Fm (a b:Int):wrap64 (wrap64 a+b)=wrap64 (a+b):=by unfold wrap64;omega
theorem Bm (u o f a:Int):wrap64 (wrap64 (wrap64 (u+o)+f)+a)=wrap64 (wrap64 (u+wrap64 (o+a))+f):=by unfold wrap64;omega
theorem sg (L:Lw) (K:Bk) (i:Nat):∀ p,b8 L K i p=wrap64 (wrap64 (used L K (K.ledgers.getD i Lg.none).team (K.ledgers.getD i Lg.none).res+jw K.purses (K.ledgers.getD i Lg.none).team (K.ledgers.getD i Lg.none).res p)+(K.ledgers.getD i Lg.none).free)
 |0=>by rw[b8,jw,Fm,Int.add_zero]
 |p+1=>by
  rw[b8,jw,sg L K i p];split
  ·exact Bm _ _ _ _
  ·rfl
theorem xr (L:Lw) (K:Bk) (i:Nat):b8 L K i K.purses.length=wm L K (K.ledgers.getD i Lg.none):=by
 rw[sg];rfl
theorem uE {ls:List Lg} (h:gA ls=true):mv ls:=by
 intro i j hi hj he;obtain⟨h1,h2⟩:=sI he;have hr:=(mw ls).1 h;have av:=ub (ie fa fa) hr;rcases Nat.lt_trichotomy i j with q|q|q
 ·have:=av i j q hj;have hz:=((ie fa fa).z ((fun i=>((ls.getD i Lg.none).team.toList,(ls.getD i Lg.none).res.toList)) i) ((fun i=>((ls.getD i Lg.none).team.toList,(ls.getD i Lg.none).res.toList)) j)).2 (by show (_,_)=(_,_);rw[h1,h2]);exact absurd hz (Int.ne_of_lt this)
 ·exact q
 ·have:=av j i q hi;have hz:=((ie fa fa).z ((fun i=>((ls.getD i Lg.none).team.toList,(ls.getD i Lg.none).res.toList)) j) ((fun i=>((ls.getD i Lg.none).team.toList,(ls.getD i Lg.none).res.toList)) i)).2 (by show (_,_)=(_,_);rw[h1,h2]);exact absurd hz (Int.ne_of_lt this)
theorem DN (L:Lw) (K:Bk) (a0 a1 a2 e0 e1 e2 e3:Nat) (w:World) (hL:fT w a0 a1 a2 L) (hK:fG w e0 e1 e2 e3 K) (hs:kQ K.ledgers) (ha:mv K.ledgers) (hp:∀ p,p<K.purses.length→ir K.ledgers (K.purses.getD p Ps.none).team (K.purses.getD p Ps.none).res<K.ledgers.length):
  Calls Tryz.prog 42 #[.agg #[.slice (some ⟨a0,0,none⟩) L.shapes.length L.shapes.length,.slice (some ⟨a1,0,none⟩) L.mends.length L.mends.length,.slice (some ⟨a2,0,none⟩) L.teams.length L.teams.length],.agg #[.int .i64 K.now,.int .i64 K.tick,.int .i64 K.given,.slice (some ⟨e0,0,none⟩) K.objects.length K.objects.length,.slice (some ⟨e1,0,none⟩) K.grants.length K.grants.length,.slice (some ⟨e2,0,none⟩) K.ledgers.length K.ledgers.length,.slice (some ⟨e3,0,none⟩) K.purses.length K.purses.length]] w fun e w'=>e=.returned (.bool (iC L K))∧Bel w w':=by
 have HA:=hid (And.intro hL (And.intro hK (And.intro hs (And.intro ha hp))));have hl:=hK.l.len;obtain⟨R,hR⟩:∃ R,R=iC L K:=⟨_,rfl⟩
 have HR:Hid (R=aC (fD L K) K.ledgers.length):=hR;rw[← hR];clear hL hK hs ha hp hR;obtain⟨w1,eb⟩:∃ w1,w1=(w.alloc (.cells #[.slice (some ⟨a0,0,none⟩) L.shapes.length L.shapes.length,.slice (some ⟨a1,0,none⟩) L.mends.length L.mends.length,.slice (some ⟨a2,0,none⟩) L.teams.length L.teams.length] 40)).alloc (.cells #[.int .i64 K.now,.int .i64 K.tick,.int .i64 K.given,.slice (some ⟨e0,0,none⟩) K.objects.length K.objects.length,.slice (some ⟨e1,0,none⟩) K.grants.length K.grants.length,.slice (some ⟨e2,0,none⟩) K.ledgers.length K.ledgers.length,.slice (some ⟨e3,0,none⟩) K.purses.length K.purses.length] 47):=⟨_,rfl⟩
 have cQ:Hid (Bel w w1):=by show Below _ _ _;rw[eb];exact ab (ab br _) _
 have dE:Hid (aM w1 w.heap.size #[.slice (some ⟨a0,0,none⟩) L.shapes.length L.shapes.length,.slice (some ⟨a1,0,none⟩) L.mends.length L.mends.length,.slice (some ⟨a2,0,none⟩) L.teams.length L.teams.length]∧aM w1 (w.heap.size+1) #[.int .i64 K.now,.int .i64 K.tick,.int .i64 K.given,.slice (some ⟨e0,0,none⟩) K.objects.length K.objects.length,.slice (some ⟨e1,0,none⟩) K.grants.length K.grants.length,.slice (some ⟨e2,0,none⟩) K.ledgers.length K.ledgers.length,.slice (some ⟨e3,0,none⟩) K.purses.length K.purses.length]):=by
  show _∧_;rw[eb];exact⟨(aM.bp w _ _ _ rfl).cy _,aM.bp _ _ _ _ (by simp)⟩
 go_enter Tryz.func42,Tryz.ntmps42
 go_upto_region 1 with fail
 rw[← eb];clear eb;obtain⟨bD,aS⟩:=dE.out;have lz:=bD.lt;have yz:=aS.lt;have l0:w1.cell? ⟨w.heap.size,0,none⟩=some (.slice (some ⟨a0,0,none⟩) L.shapes.length L.shapes.length):=bD.at_ 0;have l1:w1.cell? ⟨w.heap.size,1,none⟩=some (.slice (some ⟨a1,0,none⟩) L.mends.length L.mends.length):=bD.at_ 1;have l2:w1.cell? ⟨w.heap.size,2,none⟩=some (.slice (some ⟨a2,0,none⟩) L.teams.length L.teams.length):=bD.at_ 2;have y0:w1.cell? ⟨w.heap.size+1,0,none⟩=some (.int .i64 K.now):=aS.at_ 0;have y1:w1.cell? ⟨w.heap.size+1,1,none⟩=some (.int .i64 K.tick):=aS.at_ 1;have y2:w1.cell? ⟨w.heap.size+1,2,none⟩=some (.int .i64 K.given):=aS.at_ 2;have y3:w1.cell? ⟨w.heap.size+1,3,none⟩=some (.slice (some ⟨e0,0,none⟩) K.objects.length K.objects.length):=aS.at_ 3;have y4:w1.cell? ⟨w.heap.size+1,4,none⟩=some (.slice (some ⟨e1,0,none⟩) K.grants.length K.grants.length):=aS.at_ 4;have y5:w1.cell? ⟨w.heap.size+1,5,none⟩=some (.slice (some ⟨e2,0,none⟩) K.ledgers.length K.ledgers.length):=aS.at_ 5;have y6:w1.cell? ⟨w.heap.size+1,6,none⟩=some (.slice (some ⟨e3,0,none⟩) K.purses.length K.purses.length):=aS.at_ 6;clear bD aS;go_wp2_with fail
 refine(IP L K a0 a1 a2 e0 e1 e2 e3 w1 (HA.out.1.later cQ.out) (HA.out.2.1.later cQ.out) HA.out.2.2.1 HA.out.2.2.2.1 HA.out.2.2.2.2).mono ?_;rintro e w3 ⟨⟨mb,rfl,gB,hH,EJ⟩,aO⟩;have nv:=hid (And.intro hH EJ);have fO:=hid (aa cQ.out aO);have vu:=hid (dE.out.2.later aO);clear gB hH EJ aO lz l0 l1 l2 yz y0 y1 y2 y3 y4 y5 y6;have aS:=vu.out;have yz:=aS.lt;have y5:w3.cell? ⟨w.heap.size+1,5,none⟩=some (.slice (some ⟨e2,0,none⟩) K.ledgers.length K.ledgers.length):=aS.at_ 5;clear aS;go_wp2;clear yz y5;go_loopw [14] (fun i wr=>∃ q:Nat,q≤K.ledgers.length∧i=.int .i64 q∧aC (fD L K) q=true∧Bel w3 wr) (fun i _=>K.ledgers.length - (intOf i).toNat)
 case atStart=>exact⟨0,nz,rfl,rfl,br⟩
 case round=>
  obtain⟨q,hq,rfl,Cs,hW⟩:=hrel;have HQ:Hid (aC (fD L K) q=true):=Cs;have rH:Hid (Bel w3 wr):=hW;have fw:=hid (aa fO.out hW);clear Cs hW;by_cases av:q<K.ledgers.length
  ·obtain⟨x,hx⟩:∃ x,x=K.ledgers.getD q Lg.none:=⟨_,rfl⟩
   have bA:=(HA.out.2.1.later fw.out).l;have gJ:=bA.lt;have dO:=bA.at_ q av;rw[← hx]at dO;obtain⟨c0,c1,c2,c3,eU⟩:=dO;obtain⟨w4,eo⟩:∃ w4,w4=wr.alloc (.cells #[.string x.team,.string x.res,.int .i64 x.most,.int .i64 x.free] 131):=⟨_,rfl⟩
   obtain⟨E,hE⟩:∃ E,E=wr.heap.size:=⟨_,rfl⟩
   have dD:Bel wr w4:=by rw[eo];exact ab br _
   have js:=hid (aa rH.out dD);have Ha:Hid (aM w4 E #[.string x.team,.string x.res,.int .i64 x.most,.int .i64 x.free]):=by show aM _ _ _;rw[eo];exact aM.bp _ _ _ _ hE
   have tx:=hid (And.intro (lo nv.out.1 js.out.size) ((js.out.block mb nv.out.1).trans nv.out.2));obtain⟨cu,zh⟩:∃ cu,cu=b8 L K q K.purses.length:=⟨_,rfl⟩
   have tG:Hid (∀ W,W.heap[mb]? =some (.map (bK K.ledgers (fun i=>b8 L K i K.purses.length) K.ledgers.length) K.ledgers.length)→(Instr.lookup 154 (.map (some mb)) (.agg #[.string x.team,.string x.res]) false).run Tryz.prog W=.ok (.int .i64 cu) W):=fun W hb=>by
    rw[zh];refine rU _ _ mb q W x _ eU hb ?_;rcases nL K.ledgers (fun i=>b8 L K i K.purses.length) K.ledgers.length W x eU nr HA.out.2.2.1 with h|⟨i,hi,hr,he⟩
    ·exact absurd (by rw[hx]) (h.2 q av)
    ·rw[hx]at he;obtain rfl:=HA.out.2.2.2.1 i q hi av he;exact hr
   have HSA:Hid (fD L K q=decide (cu=x.most)):=by
    show fD L K q=_;unfold fD;rw[zh,xr,hx]
   clear hx bA zh eU;have aS:=vu.out.later rH.out;have yz:=aS.lt;clear aS;go_upto_region 5 with fail
   rw[← eo,← hE];clear eo hE c0 c1 c2 c3 gJ yz;obtain⟨bq,mO⟩:∃ bq,bq= !decide (cu=x.most):=⟨_,rfl⟩
   have HBQ:Hid ((cu !=x.most)=bq):=by show _=_;rw[mO];rfl
   have K4:Hid (bq= !fD L K q):=by show bq=_;rw[mO,HSA.out]
   clear mO;refine jf w4 br (fun j u _=>VL [.map (some mb),.pointer (some ⟨E,0,none⟩),.string x.team,.pointer (some ⟨E,1,none⟩),.string x.res,.agg #[.string x.team,.string x.res],.int .i64 cu,.pointer (some ⟨E,2,none⟩),.int .i64 x.most,.bool bq] j u) (fun _ _ _ _ _ h=>h) (by kernel_rfl) (by kernel_rfl) (by kernel_rfl) (by kernel_rfl) ?_ ?_
   ·intro i o ho a W hW hk hd;have et5:a.tmps[5]?.getD undef=.map (some mb):=(ay a 5).trans ((hk 5 rfl).trans rfl);have et7:a.tmps[7]?.getD undef=.pointer (some ⟨E,0,none⟩):=(ay a 7).trans ((hk 7 rfl).trans rfl);have hE:=Ha.out.later hW;have jr:=hE.lt;have hmp:=(hW.block mb tx.out.1).trans tx.out.2;have x0:W.cell? ⟨E,0,none⟩=some (.string x.team):=hE.at_ 0;have x1:W.cell? ⟨E,1,none⟩=some (.string x.res):=hE.at_ 1;have x2:W.cell? ⟨E,2,none⟩=some (.int .i64 x.most):=hE.at_ 2;have x3:W.cell? ⟨E,3,none⟩=some (.int .i64 x.free):=hE.at_ 3;match i,ho with
    |0,ho=>
     injection ho with ho;subst ho
     exact Or.inl ⟨_,W,by simp[execOp,go_sem,et5],br,rfl⟩
    |1,ho=>
     injection ho with ho;subst ho
     exact Or.inl ⟨_,W,by simp[execOp,go_sem,et7],br,rfl⟩
    |2,ho=>
     injection ho with ho;subst ho
     have e1:a.tmps[19]?.getD undef=.pointer (some ⟨E,0,none⟩):=(ay a 19).trans (Option.some.inj (hd 1 _ 19 rfl rfl ⟨⟨1,.data⟩,by simp,rfl,rfl⟩)).symm;exact Or.inl ⟨_,W,by simp[execOp,go_sem,e1,x0],br,rfl⟩
    |3,ho=>
     injection ho with ho;subst ho
     exact Or.inl ⟨_,W,by simp[execOp,go_sem,et7],br,rfl⟩
    |4,ho=>
     injection ho with ho;subst ho
     have e3:a.tmps[21]?.getD undef=.pointer (some ⟨E,1,none⟩):=(ay a 21).trans (Option.some.inj (hd 3 _ 21 rfl rfl ⟨⟨3,.data⟩,by simp,rfl,rfl⟩)).symm;exact Or.inl ⟨_,W,by simp[execOp,go_sem,e3,x1],br,rfl⟩
    |5,ho=>
     injection ho with ho;subst ho
     have e2:a.tmps[20]?.getD undef=.string x.team:=(ay a 20).trans (Option.some.inj (hd 2 _ 20 rfl rfl ⟨⟨2,.data⟩,by simp,rfl,rfl⟩)).symm;have e4:a.tmps[22]?.getD undef=.string x.res:=(ay a 22).trans (Option.some.inj (hd 4 _ 22 rfl rfl ⟨⟨4,.data⟩,by simp,rfl,rfl⟩)).symm;exact Or.inl ⟨_,W,by simp[execOp,go_sem,e2,e4],br,rfl⟩
    |6,ho=>
     injection ho with ho;subst ho
     have e0:a.tmps[18]?.getD undef=.map (some mb):=(ay a 18).trans (Option.some.inj (hd 0 _ 18 rfl rfl ⟨⟨0,.data⟩,by simp,rfl,rfl⟩)).symm;have e5:a.tmps[23]?.getD undef=.agg #[.string x.team,.string x.res]:=(ay a 23).trans (Option.some.inj (hd 5 _ 23 rfl rfl ⟨⟨5,.data⟩,by simp,rfl,rfl⟩)).symm;have Iq:=tG.out W hmp;exact Or.inl ⟨_,W,by simp[execOp,go_sem,e0,e5,Iq],br,rfl⟩
    |7,ho=>
     injection ho with ho;subst ho
     exact Or.inl ⟨_,W,by simp[execOp,go_sem,et7],br,rfl⟩
    |8,ho=>
     injection ho with ho;subst ho
     have e7:a.tmps[25]?.getD undef=.pointer (some ⟨E,2,none⟩):=(ay a 25).trans (Option.some.inj (hd 7 _ 25 rfl rfl ⟨⟨7,.data⟩,by simp,rfl,rfl⟩)).symm;exact Or.inl ⟨_,W,by simp[execOp,go_sem,e7,x2],br,rfl⟩
    |9,ho=>
     injection ho with ho;subst ho
     have e6:a.tmps[24]?.getD undef=.int .i64 cu:=(ay a 24).trans (Option.some.inj (hd 6 _ 24 rfl rfl ⟨⟨6,.data⟩,by simp,rfl,rfl⟩)).symm;have e8:a.tmps[26]?.getD undef=.int .i64 x.most:=(ay a 26).trans (Option.some.inj (hd 8 _ 26 rfl rfl ⟨⟨8,.data⟩,by simp,rfl,rfl⟩)).symm;exact Or.inl ⟨.bool bq,W,by simp[execOp,go_sem,e6,e8,HBQ.out],br,rfl⟩
    |m+10,ho=>simp at ho
   ·intro w9 vs xg nj;have elast:vs 27=.bool bq:=(Option.some.inj (nj 9 _ 27 rfl rfl)).symm;have xh:Hid (Bel w4 w9):=xg;simp only[eu,Act.put,List.setIfInBounds_toArray,List.set_cons_zero,List.set_cons_succ];rw[elast];generalize vs 18=s18;generalize vs 19=s19;generalize vs 20=s20;generalize vs 21=s21;generalize vs 22=s22;generalize vs 23=s23;generalize vs 24=s24;generalize vs 25=s25;generalize vs 26=s26;clear nj elast xg;cases bq
    ·have HE:=hid (aV HQ.out (by have:=K4.out;cases h:fD L K q<;>simp[h]at this ⊢));go_wp2;go_roundw
     case rel=>exact⟨q+1,by omega,by go_num,HE.out,aa js.out xh.out⟩
     case measure=>simp[intOf];omega
    ·have HE:Hid (R=false):=by
      show R=false;rw[HR.out];exact ba av (by have:=K4.out;cases h:fD L K q<;>simp[h]at this ⊢)
     go_wp2;go_ret;exact⟨Pl.ae HE.out.symm,aa fO.out (aa js.out xh.out)⟩
  ·obtain rfl:q=K.ledgers.length:=by omega
   go_wp2;go_ret;exact⟨Pl.ae (by rw[HR.out,HQ.out]),fw.out⟩
set_option maxRecDepth 8000
set_option maxHeartbeats 40000000
open Go.RowKit Go.Deep
theorem uY (L:Lw) (K:Bk) (a0 a1 a2 e0 e1 e2 e3:Nat) (w:World) (hL:fT w a0 a1 a2 L) (hK:fG w e0 e1 e2 e3 K) (hm:aU L.shapes L.mends=true):
  Calls Tryz.prog 38 #[.agg #[.slice (some ⟨a0,0,none⟩) L.shapes.length L.shapes.length,.slice (some ⟨a1,0,none⟩) L.mends.length L.mends.length,.slice (some ⟨a2,0,none⟩) L.teams.length L.teams.length],.agg #[.int .i64 K.now,.int .i64 K.tick,.int .i64 K.given,.slice (some ⟨e0,0,none⟩) K.objects.length K.objects.length,.slice (some ⟨e1,0,none⟩) K.grants.length K.grants.length,.slice (some ⟨e2,0,none⟩) K.ledgers.length K.ledgers.length,.slice (some ⟨e3,0,none⟩) K.purses.length K.purses.length]] w fun e w'=>e=.returned (.bool (ef L K))∧Bel w w':=by
 have HA:=hid (And.intro hL (And.intro hK hm));have hl:=hK.o.len;obtain⟨R,hR⟩:∃ R,R=ef L K:=⟨_,rfl⟩
 have HR:Hid (R=(decide (K.objects.length≤40)&&jB K.objects&&aC (cM L K) K.objects.length)):=hR;rw[← hR];clear hL hK hm hR;obtain⟨w1,eb⟩:∃ w1,w1=(w.alloc (.cells #[.slice (some ⟨a0,0,none⟩) L.shapes.length L.shapes.length,.slice (some ⟨a1,0,none⟩) L.mends.length L.mends.length,.slice (some ⟨a2,0,none⟩) L.teams.length L.teams.length] 40)).alloc (.cells #[.int .i64 K.now,.int .i64 K.tick,.int .i64 K.given,.slice (some ⟨e0,0,none⟩) K.objects.length K.objects.length,.slice (some ⟨e1,0,none⟩) K.grants.length K.grants.length,.slice (some ⟨e2,0,none⟩) K.ledgers.length K.ledgers.length,.slice (some ⟨e3,0,none⟩) K.purses.length K.purses.length] 47):=⟨_,rfl⟩
 have cQ:Hid (Bel w w1):=by show Below _ _ _;rw[eb];exact ab (ab br _) _
 have dE:Hid (∀ W,Bel w1 W→aM W w.heap.size #[.slice (some ⟨a0,0,none⟩) L.shapes.length L.shapes.length,.slice (some ⟨a1,0,none⟩) L.mends.length L.mends.length,.slice (some ⟨a2,0,none⟩) L.teams.length L.teams.length]∧aM W (w.heap.size+1) #[.int .i64 K.now,.int .i64 K.tick,.int .i64 K.given,.slice (some ⟨e0,0,none⟩) K.objects.length K.objects.length,.slice (some ⟨e1,0,none⟩) K.grants.length K.grants.length,.slice (some ⟨e2,0,none⟩) K.ledgers.length K.ledgers.length,.slice (some ⟨e3,0,none⟩) K.purses.length K.purses.length]):=by
  have q:aM w1 w.heap.size #[.slice (some ⟨a0,0,none⟩) L.shapes.length L.shapes.length,.slice (some ⟨a1,0,none⟩) L.mends.length L.mends.length,.slice (some ⟨a2,0,none⟩) L.teams.length L.teams.length]∧aM w1 (w.heap.size+1) #[.int .i64 K.now,.int .i64 K.tick,.int .i64 K.given,.slice (some ⟨e0,0,none⟩) K.objects.length K.objects.length,.slice (some ⟨e1,0,none⟩) K.grants.length K.grants.length,.slice (some ⟨e2,0,none⟩) K.ledgers.length K.ledgers.length,.slice (some ⟨e3,0,none⟩) K.purses.length K.purses.length]:=by
   rw[eb];exact⟨(aM.bp _ _ _ _ rfl).cy _,aM.bp _ _ _ _ (by simp)⟩
  intro W hW;exact⟨q.1.later hW,q.2.later hW⟩
 go_enter Tryz.func38,Tryz.ntmps38
 go_upto_region 1 with fail
 rw[← eb];clear eb;obtain⟨y3,y7⟩:=dE.out w1 br;have k3:w1.cell? ⟨w.heap.size+1,3,none⟩=some (.slice (some ⟨e0,0,none⟩) K.objects.length K.objects.length):=y7.at_ 3;clear y3 y7;by_cases hlen:K.objects.length≤40
 ·obtain⟨ra,vx⟩:∃ ra,ra=jB K.objects:=⟨_,rfl⟩
  have HC:=E1 e0 K.objects w1 (HA.out.2.1.later cQ.out).o;rw[← vx]at HC;have zi:Hid (ra=jB K.objects):=vx;clear vx;go_wp2_with fail
  refine HC.mono ?_;rintro e w2 ⟨rfl,aA⟩;clear k3 HC;cases ra
  ·have HE:Hid (R=false):=by show _=_;rw[HR.out,← zi.out];simp
   go_wp2;go_ret;exact⟨Pl.ae HE.out.symm,aa cQ.out aA⟩
  ·have mm:Hid (R=aC (cM L K) K.objects.length):=by show R=_;rw[HR.out,← zi.out];simp[hlen]
   have HL:Hid (K.objects.length≤40):=hlen;clear hlen;obtain⟨y3,y7⟩:=dE.out w2 aA;have k3:w2.cell? ⟨w.heap.size+1,3,none⟩=some (.slice (some ⟨e0,0,none⟩) K.objects.length K.objects.length):=y7.at_ 3;clear y3 y7;go_wp2;clear k3;go_loopw [20] (fun i wr=>∃ q:Nat,q≤K.objects.length∧i=.int .i64 q∧aC (cM L K) q=true∧Bel w1 wr) (fun i _=>K.objects.length - (intOf i).toNat)
   case atStart=>exact⟨0,nz,rfl,rfl,aA⟩
   case round=>
    obtain⟨q,hq,rfl,ha,hW⟩:=hrel;have HQ:Hid (aC (cM L K) q=true):=ha;have fw:=hid (aa cQ.out hW);clear ha;by_cases av:q<K.objects.length
    ·obtain⟨x,hx⟩:∃ x,x=K.objects.getD q Ob.none:=⟨_,rfl⟩
     have bA:=(HA.out.2.1.later fw.out).o;have gJ:=bA.lt;have dO:=bA.at_ q av;rw[← hx]at dO;obtain⟨b1,b2,_,c0,c1,c2,c3,c4,c5,c6,tA⟩:=dO;obtain⟨w4,eo⟩:∃ w4,w4=wr.alloc (.cells #[.string x.kind,.string x.name,.string x.team,.slice (some ⟨b1,0,none⟩) x.values.length x.values.length,.bool x.ending,.slice (some ⟨b2,0,none⟩) x.holds.length x.holds.length,.int .i64 x.version] 111):=⟨_,rfl⟩
     obtain⟨E,hE⟩:∃ E,E=wr.heap.size:=⟨_,rfl⟩
     have dD:Bel wr w4:=by rw[eo];exact ab br _
     have js:=hid (aa hW dD);have aZ:=hid (aa fw.out dD);have hE4:aM w4 E #[.string x.kind,.string x.name,.string x.team,.slice (some ⟨b1,0,none⟩) x.values.length x.values.length,.bool x.ending,.slice (some ⟨b2,0,none⟩) x.holds.length x.holds.length,.int .i64 x.version]:=by rw[eo];exact aM.bp _ _ _ _ hE
     have kR:=hid (tA.later dD);obtain⟨rb,BY⟩:∃ rb,rb=gS L K x:=⟨_,rfl⟩
     have HRB:Hid (cM L K q=rb):=by show _=_;rw[BY];unfold cM;rw[← hx]
     have HC:=xY L K x a0 a1 a2 e0 e1 e2 e3 b1 b2 w4 (HA.out.1.later aZ.out) (HA.out.2.1.later aZ.out) HA.out.2.2 zi.out.symm kR.out.arg kR.out.sized kR.out.z1 kR.out.z2;rw[← BY]at HC;have HE4:Hid (aM w4 E #[.string x.kind,.string x.name,.string x.team,.slice (some ⟨b1,0,none⟩) x.values.length x.values.length,.bool x.ending,.slice (some ⟨b2,0,none⟩) x.holds.length x.holds.length,.int .i64 x.version]):=hE4;clear hx BY tA hE4 dD;go_upto_region 6 with fail
     rw[← eo,← hE];clear eo hE c0 c1 c2 c3 c4 c5 c6;obtain⟨y3,y7⟩:=dE.out w4 js.out;have yE:=HE4.out;have l0:w4.cell? ⟨w.heap.size,0,none⟩=some (.slice (some ⟨a0,0,none⟩) L.shapes.length L.shapes.length):=y3.at_ 0;have l1:w4.cell? ⟨w.heap.size,1,none⟩=some (.slice (some ⟨a1,0,none⟩) L.mends.length L.mends.length):=y3.at_ 1;have l2:w4.cell? ⟨w.heap.size,2,none⟩=some (.slice (some ⟨a2,0,none⟩) L.teams.length L.teams.length):=y3.at_ 2;have k0:w4.cell? ⟨w.heap.size+1,0,none⟩=some (.int .i64 K.now):=y7.at_ 0;have k1:w4.cell? ⟨w.heap.size+1,1,none⟩=some (.int .i64 K.tick):=y7.at_ 1;have k2:w4.cell? ⟨w.heap.size+1,2,none⟩=some (.int .i64 K.given):=y7.at_ 2;have k3:w4.cell? ⟨w.heap.size+1,3,none⟩=some (.slice (some ⟨e0,0,none⟩) K.objects.length K.objects.length):=y7.at_ 3;have k4:w4.cell? ⟨w.heap.size+1,4,none⟩=some (.slice (some ⟨e1,0,none⟩) K.grants.length K.grants.length):=y7.at_ 4;have k5:w4.cell? ⟨w.heap.size+1,5,none⟩=some (.slice (some ⟨e2,0,none⟩) K.ledgers.length K.ledgers.length):=y7.at_ 5;have k6:w4.cell? ⟨w.heap.size+1,6,none⟩=some (.slice (some ⟨e3,0,none⟩) K.purses.length K.purses.length):=y7.at_ 6;have o0:w4.cell? ⟨E,0,none⟩=some (.string x.kind):=yE.at_ 0;have o1:w4.cell? ⟨E,1,none⟩=some (.string x.name):=yE.at_ 1;have o2:w4.cell? ⟨E,2,none⟩=some (.string x.team):=yE.at_ 2;have o3:w4.cell? ⟨E,3,none⟩=some (.slice (some ⟨b1,0,none⟩) x.values.length x.values.length):=yE.at_ 3;have o4:w4.cell? ⟨E,4,none⟩=some (.bool x.ending):=yE.at_ 4;have o5:w4.cell? ⟨E,5,none⟩=some (.slice (some ⟨b2,0,none⟩) x.holds.length x.holds.length):=yE.at_ 5;have o6:w4.cell? ⟨E,6,none⟩=some (.int .i64 x.version):=yE.at_ 6;clear y3 y7 yE;go_wp2_with fail
     refine HC.mono ?_;rintro e w5 ⟨rfl,gI⟩;clear HC l0 l1 l2 k0 k1 k2 k3 k4 k5 k6 o0 o1 o2 o3 o4 o5 o6;cases rb
     ·have HE:Hid (R=false):=by
       show R=false;rw[mm.out];cases e:aC (cM L K) K.objects.length
       ·rfl
       ·have:=(gG _ _).1 e q av;rw[HRB.out]at this;cases this
      go_wp2;go_ret;exact⟨Pl.ae HE.out.symm,aa aZ.out gI⟩
     ·have HT:Hid (aC (cM L K) (q+1)=true):=by show _=_;rw[aC,HQ.out,HRB.out];rfl
      go_wp2;go_roundw
      case rel=>exact⟨q+1,by omega,by go_num,HT.out,aa js.out gI⟩
      case measure=>simp[intOf];omega
    ·have HE:Hid (R=true):=by
      show R=true;rw[mm.out];obtain rfl:q=K.objects.length:=by omega
      exact HQ.out
     go_wp2;go_ret;exact⟨Pl.ae HE.out.symm,fw.out⟩
 ·have HE:Hid (R=false):=by show _=_;rw[HR.out];simp[hlen]
  go_wp2;go_ret;exact⟨Pl.ae HE.out.symm,cQ.out⟩
set_option maxRecDepth 8000
set_option maxHeartbeats 40000000
open Go.RowKit Go.Deep
theorem DD (L:Lw) (K:Bk) (a0 a1 a2 e0 e1 e2 e3:Nat) (w:World) (hL:fT w a0 a1 a2 L) (hK:fG w e0 e1 e2 e3 K):
  Calls Tryz.prog 10 #[.agg #[.slice (some ⟨a0,0,none⟩) L.shapes.length L.shapes.length,.slice (some ⟨a1,0,none⟩) L.mends.length L.mends.length,.slice (some ⟨a2,0,none⟩) L.teams.length L.teams.length],.agg #[.int .i64 K.now,.int .i64 K.tick,.int .i64 K.given,.slice (some ⟨e0,0,none⟩) K.objects.length K.objects.length,.slice (some ⟨e1,0,none⟩) K.grants.length K.grants.length,.slice (some ⟨e2,0,none⟩) K.ledgers.length K.ledgers.length,.slice (some ⟨e3,0,none⟩) K.purses.length K.purses.length]] w fun e w'=>e=.returned (.bool (gE L K))∧Bel w w':=by
 have HA:=hid (And.intro hL hK);obtain⟨R,hR⟩:∃ R,R=gE L K:=⟨_,rfl⟩
 have HR:Hid (R=(fZ L&&gP K&&ef L K&&eH K&&dM L K&&eG K&&iC L K)):=hR;rw[← hR];clear hL hK hR;obtain⟨w1,eb⟩:∃ w1,w1=(w.alloc (.cells #[.slice (some ⟨a0,0,none⟩) L.shapes.length L.shapes.length,.slice (some ⟨a1,0,none⟩) L.mends.length L.mends.length,.slice (some ⟨a2,0,none⟩) L.teams.length L.teams.length] 40)).alloc (.cells #[.int .i64 K.now,.int .i64 K.tick,.int .i64 K.given,.slice (some ⟨e0,0,none⟩) K.objects.length K.objects.length,.slice (some ⟨e1,0,none⟩) K.grants.length K.grants.length,.slice (some ⟨e2,0,none⟩) K.ledgers.length K.ledgers.length,.slice (some ⟨e3,0,none⟩) K.purses.length K.purses.length] 47):=⟨_,rfl⟩
 have cQ:Hid (Bel w w1):=by show Below _ _ _;rw[eb];exact ab (ab br _) _
 have dE:Hid (∀ W,Bel w1 W→aM W w.heap.size #[.slice (some ⟨a0,0,none⟩) L.shapes.length L.shapes.length,.slice (some ⟨a1,0,none⟩) L.mends.length L.mends.length,.slice (some ⟨a2,0,none⟩) L.teams.length L.teams.length]∧aM W (w.heap.size+1) #[.int .i64 K.now,.int .i64 K.tick,.int .i64 K.given,.slice (some ⟨e0,0,none⟩) K.objects.length K.objects.length,.slice (some ⟨e1,0,none⟩) K.grants.length K.grants.length,.slice (some ⟨e2,0,none⟩) K.ledgers.length K.ledgers.length,.slice (some ⟨e3,0,none⟩) K.purses.length K.purses.length]):=by
  have q:aM w1 w.heap.size #[.slice (some ⟨a0,0,none⟩) L.shapes.length L.shapes.length,.slice (some ⟨a1,0,none⟩) L.mends.length L.mends.length,.slice (some ⟨a2,0,none⟩) L.teams.length L.teams.length]∧aM w1 (w.heap.size+1) #[.int .i64 K.now,.int .i64 K.tick,.int .i64 K.given,.slice (some ⟨e0,0,none⟩) K.objects.length K.objects.length,.slice (some ⟨e1,0,none⟩) K.grants.length K.grants.length,.slice (some ⟨e2,0,none⟩) K.ledgers.length K.ledgers.length,.slice (some ⟨e3,0,none⟩) K.purses.length K.purses.length]:=by
   rw[eb];exact⟨(aM.bp _ _ _ _ rfl).cy _,aM.bp _ _ _ _ (by simp)⟩
  intro W hW;exact⟨q.1.later hW,q.2.later hW⟩
 go_enter Tryz.func10,Tryz.ntmps10
 go_upto_region 1 with fail
 rw[← eb];clear eb;obtain⟨b1,bl⟩:∃ b1,b1=fZ L:=⟨_,rfl⟩
 have HC:=FV L a0 a1 a2 w1 (HA.out.1.later cQ.out);rw[← bl]at HC;have JJ:Hid (b1=fZ L):=bl;clear bl;obtain⟨y3,y7⟩:=dE.out w1 br;have l0:w1.cell? ⟨w.heap.size,0,none⟩=some (.slice (some ⟨a0,0,none⟩) L.shapes.length L.shapes.length):=y3.at_ 0;have l1:w1.cell? ⟨w.heap.size,1,none⟩=some (.slice (some ⟨a1,0,none⟩) L.mends.length L.mends.length):=y3.at_ 1;have l2:w1.cell? ⟨w.heap.size,2,none⟩=some (.slice (some ⟨a2,0,none⟩) L.teams.length L.teams.length):=y3.at_ 2;have k0:w1.cell? ⟨w.heap.size+1,0,none⟩=some (.int .i64 K.now):=y7.at_ 0;have k1:w1.cell? ⟨w.heap.size+1,1,none⟩=some (.int .i64 K.tick):=y7.at_ 1;have k2:w1.cell? ⟨w.heap.size+1,2,none⟩=some (.int .i64 K.given):=y7.at_ 2;have k3:w1.cell? ⟨w.heap.size+1,3,none⟩=some (.slice (some ⟨e0,0,none⟩) K.objects.length K.objects.length):=y7.at_ 3;have k4:w1.cell? ⟨w.heap.size+1,4,none⟩=some (.slice (some ⟨e1,0,none⟩) K.grants.length K.grants.length):=y7.at_ 4;have k5:w1.cell? ⟨w.heap.size+1,5,none⟩=some (.slice (some ⟨e2,0,none⟩) K.ledgers.length K.ledgers.length):=y7.at_ 5;have k6:w1.cell? ⟨w.heap.size+1,6,none⟩=some (.slice (some ⟨e3,0,none⟩) K.purses.length K.purses.length):=y7.at_ 6;clear y3 y7;go_wp2_with fail
 refine HC.mono ?_;rintro e w2 ⟨rfl,Kw⟩;clear HC l0 l1 l2 k0 k1 k2 k3 k4 k5 k6;have F4:Hid (Bel w1 w2):=aa br Kw;have Ms:=hid (aa cQ.out F4.out);clear Kw;cases b1
 ·have HE:Hid (R=false):=by show _=_;rw[HR.out];simp[← JJ.out]
  go_wp2;go_ret;exact⟨Pl.ae HE.out.symm,Ms.out⟩
 have Hb1:Hid (fZ L=true):=JJ.out.symm;obtain⟨b2,aA⟩:∃ b2,b2=gP K:=⟨_,rfl⟩
 have HC:=zM K e0 e1 e2 e3 w2;rw[← aA]at HC;have Jc:Hid (b2=gP K):=aA;clear aA;obtain⟨y3,y7⟩:=dE.out w2 F4.out;have l0:w2.cell? ⟨w.heap.size,0,none⟩=some (.slice (some ⟨a0,0,none⟩) L.shapes.length L.shapes.length):=y3.at_ 0;have l1:w2.cell? ⟨w.heap.size,1,none⟩=some (.slice (some ⟨a1,0,none⟩) L.mends.length L.mends.length):=y3.at_ 1;have l2:w2.cell? ⟨w.heap.size,2,none⟩=some (.slice (some ⟨a2,0,none⟩) L.teams.length L.teams.length):=y3.at_ 2;have k0:w2.cell? ⟨w.heap.size+1,0,none⟩=some (.int .i64 K.now):=y7.at_ 0;have k1:w2.cell? ⟨w.heap.size+1,1,none⟩=some (.int .i64 K.tick):=y7.at_ 1;have k2:w2.cell? ⟨w.heap.size+1,2,none⟩=some (.int .i64 K.given):=y7.at_ 2;have k3:w2.cell? ⟨w.heap.size+1,3,none⟩=some (.slice (some ⟨e0,0,none⟩) K.objects.length K.objects.length):=y7.at_ 3;have k4:w2.cell? ⟨w.heap.size+1,4,none⟩=some (.slice (some ⟨e1,0,none⟩) K.grants.length K.grants.length):=y7.at_ 4;have k5:w2.cell? ⟨w.heap.size+1,5,none⟩=some (.slice (some ⟨e2,0,none⟩) K.ledgers.length K.ledgers.length):=y7.at_ 5;have k6:w2.cell? ⟨w.heap.size+1,6,none⟩=some (.slice (some ⟨e3,0,none⟩) K.purses.length K.purses.length):=y7.at_ 6;clear y3 y7;go_wp2_with fail
 refine HC.mono ?_;rintro e w3 ⟨rfl,JM⟩;clear HC l0 l1 l2 k0 k1 k2 k3 k4 k5 k6;have Hp:=hid (aa F4.out JM);have Ge:=hid (aa cQ.out Hp.out);clear JM;cases b2
 ·have HE:Hid (R=false):=by show _=_;rw[HR.out];simp[← Jc.out]
  go_wp2;go_ret;exact⟨Pl.ae HE.out.symm,Ge.out⟩
 have Hb2:Hid (gP K=true):=Jc.out.symm;have HM:Hid (aU L.shapes L.mends=true):=by
  have h:=Hb1.out;unfold fZ at h;cases e:aU L.shapes L.mends
  ·rw[e]at h;simp at h
  ·rfl
 obtain⟨b3,aO⟩:∃ b3,b3=ef L K:=⟨_,rfl⟩
 have HC:=uY L K a0 a1 a2 e0 e1 e2 e3 w3 (HA.out.1.later Ge.out) (HA.out.2.later Ge.out) HM.out;rw[← aO]at HC;have JN:Hid (b3=ef L K):=aO;clear aO;obtain⟨y3,y7⟩:=dE.out w3 Hp.out;have l0:w3.cell? ⟨w.heap.size,0,none⟩=some (.slice (some ⟨a0,0,none⟩) L.shapes.length L.shapes.length):=y3.at_ 0;have l1:w3.cell? ⟨w.heap.size,1,none⟩=some (.slice (some ⟨a1,0,none⟩) L.mends.length L.mends.length):=y3.at_ 1;have l2:w3.cell? ⟨w.heap.size,2,none⟩=some (.slice (some ⟨a2,0,none⟩) L.teams.length L.teams.length):=y3.at_ 2;have k0:w3.cell? ⟨w.heap.size+1,0,none⟩=some (.int .i64 K.now):=y7.at_ 0;have k1:w3.cell? ⟨w.heap.size+1,1,none⟩=some (.int .i64 K.tick):=y7.at_ 1;have k2:w3.cell? ⟨w.heap.size+1,2,none⟩=some (.int .i64 K.given):=y7.at_ 2;have k3:w3.cell? ⟨w.heap.size+1,3,none⟩=some (.slice (some ⟨e0,0,none⟩) K.objects.length K.objects.length):=y7.at_ 3;have k4:w3.cell? ⟨w.heap.size+1,4,none⟩=some (.slice (some ⟨e1,0,none⟩) K.grants.length K.grants.length):=y7.at_ 4;have k5:w3.cell? ⟨w.heap.size+1,5,none⟩=some (.slice (some ⟨e2,0,none⟩) K.ledgers.length K.ledgers.length):=y7.at_ 5;have k6:w3.cell? ⟨w.heap.size+1,6,none⟩=some (.slice (some ⟨e3,0,none⟩) K.purses.length K.purses.length):=y7.at_ 6;clear y3 y7;go_wp2_with fail
 refine HC.mono ?_;rintro e w4 ⟨rfl,Jh⟩;clear HC l0 l1 l2 k0 k1 k2 k3 k4 k5 k6;have F0:=hid (aa Hp.out Jh);have Kz:=hid (aa cQ.out F0.out);clear Jh;cases b3
 ·have HE:Hid (R=false):=by show _=_;rw[HR.out];simp[← JN.out]
  go_wp2;go_ret;exact⟨Pl.ae HE.out.symm,Kz.out⟩
 have Hb3:Hid (ef L K=true):=JN.out.symm;obtain⟨b4,cA⟩:∃ b4,b4=eH K:=⟨_,rfl⟩
 have HC:=xE K e0 e1 e2 e3 w4 (HA.out.2.later Kz.out);rw[← cA]at HC;have JZ:Hid (b4=eH K):=cA;clear cA;obtain⟨y3,y7⟩:=dE.out w4 F0.out;have l0:w4.cell? ⟨w.heap.size,0,none⟩=some (.slice (some ⟨a0,0,none⟩) L.shapes.length L.shapes.length):=y3.at_ 0;have l1:w4.cell? ⟨w.heap.size,1,none⟩=some (.slice (some ⟨a1,0,none⟩) L.mends.length L.mends.length):=y3.at_ 1;have l2:w4.cell? ⟨w.heap.size,2,none⟩=some (.slice (some ⟨a2,0,none⟩) L.teams.length L.teams.length):=y3.at_ 2;have k0:w4.cell? ⟨w.heap.size+1,0,none⟩=some (.int .i64 K.now):=y7.at_ 0;have k1:w4.cell? ⟨w.heap.size+1,1,none⟩=some (.int .i64 K.tick):=y7.at_ 1;have k2:w4.cell? ⟨w.heap.size+1,2,none⟩=some (.int .i64 K.given):=y7.at_ 2;have k3:w4.cell? ⟨w.heap.size+1,3,none⟩=some (.slice (some ⟨e0,0,none⟩) K.objects.length K.objects.length):=y7.at_ 3;have k4:w4.cell? ⟨w.heap.size+1,4,none⟩=some (.slice (some ⟨e1,0,none⟩) K.grants.length K.grants.length):=y7.at_ 4;have k5:w4.cell? ⟨w.heap.size+1,5,none⟩=some (.slice (some ⟨e2,0,none⟩) K.ledgers.length K.ledgers.length):=y7.at_ 5;have k6:w4.cell? ⟨w.heap.size+1,6,none⟩=some (.slice (some ⟨e3,0,none⟩) K.purses.length K.purses.length):=y7.at_ 6;clear y3 y7;go_wp2_with fail
 refine HC.mono ?_;rintro e w5 ⟨rfl,Jw⟩;clear HC l0 l1 l2 k0 k1 k2 k3 k4 k5 k6;have Gu:=hid (aa F0.out Jw);have GA:=hid (aa cQ.out Gu.out);clear Jw;cases b4
 ·have HE:Hid (R=false):=by show _=_;rw[HR.out];simp[← JZ.out]
  go_wp2;go_ret;exact⟨Pl.ae HE.out.symm,GA.out⟩
 have Hb4:Hid (eH K=true):=JZ.out.symm;obtain⟨b5,gI⟩:∃ b5,b5=dM L K:=⟨_,rfl⟩
 have HC:=um L K a0 a1 a2 e0 e1 e2 e3 w5 (HA.out.1.later GA.out) (HA.out.2.later GA.out);rw[← gI]at HC;have JA:Hid (b5=dM L K):=gI;clear gI;obtain⟨y3,y7⟩:=dE.out w5 Gu.out;have l0:w5.cell? ⟨w.heap.size,0,none⟩=some (.slice (some ⟨a0,0,none⟩) L.shapes.length L.shapes.length):=y3.at_ 0;have l1:w5.cell? ⟨w.heap.size,1,none⟩=some (.slice (some ⟨a1,0,none⟩) L.mends.length L.mends.length):=y3.at_ 1;have l2:w5.cell? ⟨w.heap.size,2,none⟩=some (.slice (some ⟨a2,0,none⟩) L.teams.length L.teams.length):=y3.at_ 2;have k0:w5.cell? ⟨w.heap.size+1,0,none⟩=some (.int .i64 K.now):=y7.at_ 0;have k1:w5.cell? ⟨w.heap.size+1,1,none⟩=some (.int .i64 K.tick):=y7.at_ 1;have k2:w5.cell? ⟨w.heap.size+1,2,none⟩=some (.int .i64 K.given):=y7.at_ 2;have k3:w5.cell? ⟨w.heap.size+1,3,none⟩=some (.slice (some ⟨e0,0,none⟩) K.objects.length K.objects.length):=y7.at_ 3;have k4:w5.cell? ⟨w.heap.size+1,4,none⟩=some (.slice (some ⟨e1,0,none⟩) K.grants.length K.grants.length):=y7.at_ 4;have k5:w5.cell? ⟨w.heap.size+1,5,none⟩=some (.slice (some ⟨e2,0,none⟩) K.ledgers.length K.ledgers.length):=y7.at_ 5;have k6:w5.cell? ⟨w.heap.size+1,6,none⟩=some (.slice (some ⟨e3,0,none⟩) K.purses.length K.purses.length):=y7.at_ 6;clear y3 y7;go_wp2_with fail
 refine HC.mono ?_;rintro e w6 ⟨rfl,Kb⟩;clear HC l0 l1 l2 k0 k1 k2 k3 k4 k5 k6;have GS:=hid (aa Gu.out Kb);have Jz:=hid (aa cQ.out GS.out);clear Kb;cases b5
 ·have HE:Hid (R=false):=by show _=_;rw[HR.out];simp[← JA.out]
  go_wp2;go_ret;exact⟨Pl.ae HE.out.symm,Jz.out⟩
 have Hb5:Hid (dM L K=true):=JA.out.symm;have vG:Hid (Hid (gA K.ledgers=true)):=by
  show gA K.ledgers=true;have h:=Hb5.out;unfold dM at h;cases e:gA K.ledgers
  ·rw[e]at h;simp at h
  ·rfl
 have HTK:Hid (0≤K.tick∧K.tick≤1000000):=by
  have h:=Hb2.out;unfold gP within at h;simp at h;show 0≤K.tick∧K.tick≤1000000;omega
 obtain⟨b6,yW⟩:∃ b6,b6=eG K:=⟨_,rfl⟩
 have HC:=xu K e0 e1 e2 e3 w6 (HA.out.2.later Jz.out) vG.out HTK.out.1 HTK.out.2;rw[← yW]at HC;have Jq:Hid (b6=eG K):=yW;clear yW;obtain⟨y3,y7⟩:=dE.out w6 GS.out;have l0:w6.cell? ⟨w.heap.size,0,none⟩=some (.slice (some ⟨a0,0,none⟩) L.shapes.length L.shapes.length):=y3.at_ 0;have l1:w6.cell? ⟨w.heap.size,1,none⟩=some (.slice (some ⟨a1,0,none⟩) L.mends.length L.mends.length):=y3.at_ 1;have l2:w6.cell? ⟨w.heap.size,2,none⟩=some (.slice (some ⟨a2,0,none⟩) L.teams.length L.teams.length):=y3.at_ 2;have k0:w6.cell? ⟨w.heap.size+1,0,none⟩=some (.int .i64 K.now):=y7.at_ 0;have k1:w6.cell? ⟨w.heap.size+1,1,none⟩=some (.int .i64 K.tick):=y7.at_ 1;have k2:w6.cell? ⟨w.heap.size+1,2,none⟩=some (.int .i64 K.given):=y7.at_ 2;have k3:w6.cell? ⟨w.heap.size+1,3,none⟩=some (.slice (some ⟨e0,0,none⟩) K.objects.length K.objects.length):=y7.at_ 3;have k4:w6.cell? ⟨w.heap.size+1,4,none⟩=some (.slice (some ⟨e1,0,none⟩) K.grants.length K.grants.length):=y7.at_ 4;have k5:w6.cell? ⟨w.heap.size+1,5,none⟩=some (.slice (some ⟨e2,0,none⟩) K.ledgers.length K.ledgers.length):=y7.at_ 5;have k6:w6.cell? ⟨w.heap.size+1,6,none⟩=some (.slice (some ⟨e3,0,none⟩) K.purses.length K.purses.length):=y7.at_ 6;clear y3 y7;go_wp2_with fail
 refine HC.mono ?_;rintro e w7 ⟨rfl,Jl⟩;clear HC l0 l1 l2 k0 k1 k2 k3 k4 k5 k6;have Hn:=hid (aa GS.out Jl);have Gw:=hid (aa cQ.out Hn.out);clear Jl;cases b6
 ·have HE:Hid (R=false):=by show _=_;rw[HR.out];simp[← Jq.out]
  go_wp2;go_ret;exact⟨Pl.ae HE.out.symm,Gw.out⟩
 have Hb6:Hid (eG K=true):=Jq.out.symm;have HKS:Hid (kQ K.ledgers):=fun i hi=>by
  obtain⟨_,_,_,_,eU⟩:=HA.out.2.l.at_ i hi;exact eU
 have HPL:Hid (∀ p,p<K.purses.length→ir K.ledgers (K.purses.getD p Ps.none).team (K.purses.getD p Ps.none).res<K.ledgers.length):=by
  have h:=Hb6.out;unfold eG at h;intro p hp;have h2:aC (cL K) K.purses.length=true:=by
   cases e:aC (cL K) K.purses.length
   ·rw[e]at h;simp at h
   ·rfl
  have h3:=(gG _ _).1 h2 p hp;unfold cL lZ at h3;simp only[Bool.and_eq_true,decide_eq_true_eq]at h3;exact h3.1.1.1
 obtain⟨b7,Cl⟩:∃ b7,b7=iC L K:=⟨_,rfl⟩
 have HC:=DN L K a0 a1 a2 e0 e1 e2 e3 w7 (HA.out.1.later Gw.out) (HA.out.2.later Gw.out) HKS.out (uE vG.out) HPL.out;rw[← Cl]at HC;have J9:Hid (b7=iC L K):=Cl;clear Cl;obtain⟨y3,y7⟩:=dE.out w7 Hn.out;have l0:w7.cell? ⟨w.heap.size,0,none⟩=some (.slice (some ⟨a0,0,none⟩) L.shapes.length L.shapes.length):=y3.at_ 0;have l1:w7.cell? ⟨w.heap.size,1,none⟩=some (.slice (some ⟨a1,0,none⟩) L.mends.length L.mends.length):=y3.at_ 1;have l2:w7.cell? ⟨w.heap.size,2,none⟩=some (.slice (some ⟨a2,0,none⟩) L.teams.length L.teams.length):=y3.at_ 2;have k0:w7.cell? ⟨w.heap.size+1,0,none⟩=some (.int .i64 K.now):=y7.at_ 0;have k1:w7.cell? ⟨w.heap.size+1,1,none⟩=some (.int .i64 K.tick):=y7.at_ 1;have k2:w7.cell? ⟨w.heap.size+1,2,none⟩=some (.int .i64 K.given):=y7.at_ 2;have k3:w7.cell? ⟨w.heap.size+1,3,none⟩=some (.slice (some ⟨e0,0,none⟩) K.objects.length K.objects.length):=y7.at_ 3;have k4:w7.cell? ⟨w.heap.size+1,4,none⟩=some (.slice (some ⟨e1,0,none⟩) K.grants.length K.grants.length):=y7.at_ 4;have k5:w7.cell? ⟨w.heap.size+1,5,none⟩=some (.slice (some ⟨e2,0,none⟩) K.ledgers.length K.ledgers.length):=y7.at_ 5;have k6:w7.cell? ⟨w.heap.size+1,6,none⟩=some (.slice (some ⟨e3,0,none⟩) K.purses.length K.purses.length):=y7.at_ 6;clear y3 y7;go_wp2_with fail
 refine HC.mono ?_;rintro e w8 ⟨rfl,J1⟩;clear HC l0 l1 l2 k0 k1 k2 k3 k4 k5 k6;have Mr:=hid (aa Hn.out J1);have KB:=hid (aa cQ.out Mr.out);clear J1;cases b7
 ·have HE:Hid (R=false):=by show _=_;rw[HR.out];simp[← J9.out]
  go_wp2;go_ret;exact⟨Pl.ae HE.out.symm,KB.out⟩
 have Hb7:Hid (iC L K=true):=J9.out.symm;have HE:Hid (R=true):=by show R=true;rw[HR.out,Hb1.out,Hb2.out,Hb3.out,Hb4.out,Hb5.out,Hb6.out,Hb7.out];rfl
 go_wp2;go_ret;exact⟨Pl.ae HE.out.symm,KB.out⟩
end Go.Proofs.YtbiokpmdghmgcaaGreat
