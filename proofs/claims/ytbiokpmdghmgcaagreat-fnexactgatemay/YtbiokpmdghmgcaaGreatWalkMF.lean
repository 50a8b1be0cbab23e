import Derived.Deep.RegionLaw
import Derived.Deep.DeepCutAuto
import Derived.Deep.RegionWith
import Derived.Test.YtbiokpmdghmgcaaGreatMemM
import Derived.Test.YtbiokpmdghmgcaaGreatWalkV
namespace Go.Proofs.YtbiokpmdghmgcaaGreat
set_option maxHeartbeats 40000000
open Go.RowKit Go.Deep
def dn (w:World) (v:Value) (l:List Nat):Prop:=
 (l=[]∧∃ a c,v=.slice a 0 c)∨∃ g c,v=.slice (some ⟨g,0,none⟩) l.length c∧g<w.heap.size∧l.length≤1048576∧∀ i,i<l.length→w.cell? ⟨g,i,none⟩=some (.int .i64 (l.getD i 0:Nat))
theorem dn.later {w w':World} {v:Value} {l:List Nat} (h:dn w v l) (hb:Bel w w'):dn w' v l:=by
 rcases h with h|⟨g,c,rfl,h1,h2,h3⟩
 ·exact Or.inl h
 ·exact Or.inr ⟨g,c,rfl,lo h1 hb.size,h2,fun i hi=>(hb.cell (p:=⟨g,i,none⟩) h1).trans (h3 i hi)⟩
def eA (l:List Nat) (x:Nat):Bool:=l.contains x
theorem AY (l:List Nat) (x k:Nat) (hk:k<l.length) (h:eA (l.take k) x=false) (hx:l.getD k 0≠x):eA (l.take (k+1)) x=false:=by
 unfold eA at h ⊢;rw[List.take_succ_eq_append_getElem hk];have e:l.getD k 0=l[k]:=by simp[hk]
 rw[e]at hx;rw[Bool.eq_false_iff]at h ⊢;intro hc;rw[List.contains_iff_mem,List.mem_append,List.mem_singleton]at hc;rcases hc with hc|hc
 ·exact h (List.contains_iff_mem.2 hc)
 ·exact hx hc.symm
theorem Df (l:List Nat) (x k:Nat) (hk:k<l.length) (hx:l.getD k 0=x):eA l x=true:=by
 unfold eA;have e:l.getD k 0=l[k]:=by simp[hk]
 rw[List.contains_iff_mem,← hx,e];exact List.getElem_mem hk
theorem uh (g c:Nat) (l:List Nat) (x:Nat) (w:World) (hl:l.length≤1048576)
  (hc:∀ i,i<l.length→w.cell? ⟨g,i,none⟩=some (.int .i64 (l.getD i 0:Nat))):
  Calls Tryz.prog 216 #[.slice (some ⟨g,0,none⟩) l.length c,.int .i64 x] w fun e w'=>(∃ r:Int,e=.returned (.int .i64 r)∧decide (0≤r)=eA l x)∧w=w':=by
 go_enter Tryz.func216,Tryz.ntmps216
 go_wp2;go_loop [8] (fun i=>∃ k:Nat,k≤l.length∧i=.int .i64 k∧eA (l.take k) x=false) (fun i=>l.length - (intOf i).toNat)
 case atStart=>exact⟨0,nz,rfl,rfl⟩
 case round=>
  obtain⟨k,hk,rfl,aw⟩:=hrel;have HA:=hid aw;clear aw;by_cases av:k<l.length
  ·have xi:=hc k av;obtain⟨y,hy⟩:∃ y,y=l.getD k 0:=⟨_,rfl⟩
   rw[← hy]at xi;have HY:=hid hy;clear hy hc;by_cases hq:(x:Int)=(y:Int)
   ·have HQ:=hid (Df l x k av (by rw[← HY.out];omega));go_wp2;go_ret;exact⟨⟨_,rfl,by rw[HQ.out];simp⟩,rfl⟩
   ·have HQ:=hid (AY l x k av HA.out (by rw[← HY.out];omega));go_wp2;go_round
    case rel=>exact⟨k+1,by omega,by go_num,HQ.out⟩
    case measure=>simp[intOf];omega
  ·have HQ:Hid (eA l x=false):=by have:=HA.out;rw[List.take_of_length_le (by omega)]at this;exact this
   go_wp2;go_ret;exact⟨⟨_,rfl,by rw[HQ.out];simp⟩,rfl⟩
theorem uA (a:Option Addr) (c:Nat) (x:Nat) (w:World):
  Calls Tryz.prog 216 #[.slice a 0 c,.int .i64 x] w fun e w'=>(∃ r:Int,e=.returned (.int .i64 r)∧decide (0≤r)=eA [] x)∧w=w':=by
 go_enter Tryz.func216,Tryz.ntmps216
 go_wp2;refine wp_loop_rounds 1 ?_;rw[rounds_succ];go_wp2;go_ret;exact⟨⟨_,rfl,by simp[eA]⟩,rfl⟩
theorem E7 (v:Value) (l:List Nat) (x:Nat) (w:World) (h:dn w v l):
  Calls Tryz.prog 216 #[v,.int .i64 x] w fun e w'=>(∃ r:Int,e=.returned (.int .i64 r)∧decide (0≤r)=eA l x)∧w=w':=by
 rcases h with⟨rfl,a,c,rfl⟩|⟨g,c,rfl,_,h2,h3⟩
 ·exact uA a c x w
 ·exact uh g c l x w h2 h3
theorem yy (v:Value) (l:List Nat) (x:Nat) (w:World) (h:dn w v l):
  Calls Tryz.prog 201 #[v,.int .i64 x] w fun e w'=>e=.returned (.bool (eA l x))∧w=w':=by
 have HX:Hid (∀ W,W=w→Calls Tryz.prog 216 #[v,.int .i64 x] W fun e w'=>(∃ r:Int,e=.returned (.int .i64 r)∧decide (0≤r)=eA l x)∧W=w'):=by
  intro W e;subst e;exact E7 v l x W h
 clear h;go_enter Tryz.func201,Tryz.ntmps201
 go_wp2_with fail
 refine(HX.out _ rfl).mono ?_;rintro e w' ⟨⟨r,rfl,hr⟩,rfl⟩;have HR:=hid hr;clear hr;go_wp2;go_ret;exact⟨Pl.ae HR.out,rfl⟩
theorem missing (rb:Nat) (a:Option Addr) (n c:Nat) (l:List Nat) (x:Nat) (w:World) (hc:w.cell? ⟨rb,0,none⟩=some (.slice a n c)) (h:dn w (.slice a n c) l):
  Calls Tryz.prog 200 #[.int .i64 x,.pointer (some ⟨rb,0,none⟩)] w fun e w'=>e=.returned (.bool (!eA l x))∧w=w':=by
 have HX:=hid h;obtain⟨R,hR⟩:∃ R,R=eA l x:=⟨_,rfl⟩
 have HR:=hid hR;rw[← hR];clear h hR;go_enter Tryz.func200,Tryz.ntmps200
 go_wp2_with fail
 refine(yy (.slice a n c) l x w HX.out).mono ?_;rintro e w' ⟨rfl,rfl⟩;rw[← HR.out];go_wp2;go_ret;exact⟨rfl,rfl⟩
def bL (p:Nat→Bool) (l:List Nat):Nat:=l.findIdx p
theorem iV (p:Nat→Bool) (l:List Nat) (i:Nat) (hi:i<l.length) (iM:i≤bL p l) (h:p (l.getD i 0)=true):bL p l=i:=by
 have e:l.getD i 0=l[i]:=by simp[hi]
 rw[e]at h;have:bL p l≤i:=by
  unfold bL;exact Nat.le_of_not_lt fun av=>by
   have:=List.not_of_lt_findIdx av;simp[h]at this
 omega
theorem ig (p:Nat→Bool) (l:List Nat) (i:Nat) (hi:i<l.length) (iM:i≤bL p l) (h:p (l.getD i 0)=false):i+1≤bL p l:=by
 have e:l.getD i 0=l[i]:=by simp[hi]
 rw[e]at h;by_cases hq:bL p l=i
 ·exfalso;have av:bL p l<l.length:=by omega
  have:=List.findIdx_getElem (w:=av);unfold bL at hq;simp only[hq]at this;rw[this]at h;cases h
 ·omega
theorem n0 (rb:Nat) (p:Nat→Bool) (g c:Nat) (l:List Nat) (w:World) (hg:g<w.heap.size) (hl:l.length≤1048576)
  (hc:∀ i,i<l.length→w.cell? ⟨g,i,none⟩=some (.int .i64 (l.getD i 0:Nat)))
  (hp:∀ (x:Nat) W,x∈l→Bel w W→Calls Tryz.prog 200 #[.int .i64 x,.pointer (some ⟨rb,0,none⟩)] W fun e w'=>e=.returned (.bool (p x))∧Bel W w'):
  Calls Tryz.prog 203 #[.slice (some ⟨g,0,none⟩) l.length c,.func (.func 200) #[] #[.pointer (some ⟨rb,0,none⟩)]] w fun e w'=>(∃ r:Int,e=.returned (.int .i64 r)∧r=(if bL p l<l.length then (bL p l:Int) else -1))∧Bel w w':=by
 have HC:=hid hc;have HP:=hid hp;obtain⟨R,hR⟩:∃ R:Int,R=(if bL p l<l.length then (bL p l:Int) else -1):=⟨_,rfl⟩
 rw[← hR];have HR:=hid hR;clear hc hp hR;go_enter Tryz.func203,Tryz.ntmps203
 go_wp2;go_loopw [8] (fun i wr=>∃ q:Nat,q≤l.length∧i=.int .i64 q∧q≤bL p l∧Bel w wr) (fun i _=>l.length - (intOf i).toNat)
 case atStart=>exact⟨0,nz,rfl,nz,br⟩
 case round=>
  obtain⟨q,hq,rfl,iM,hW⟩:=hrel;have HN:=hid iM;clear iM;by_cases av:q<l.length
  ·have c0:=(hW.cell (p:=⟨g,q,none⟩) hg).trans (HC.out q av);obtain⟨y,hy⟩:∃ y,y=l.getD q 0:=⟨_,rfl⟩
   rw[← hy]at c0;have HX:=hid (HP.out y wr (by rw[hy];simp[av]) hW);have HG:=hid hy;have zf:=lo hg hW.size;clear hy;cases ht:p y
   ·have HM:=hid (ig p l q av HN.out (by rw[← HG.out];exact ht));go_wp2_with fail
    refine HX.out.mono ?_;rintro e w2 ⟨rfl,aA⟩;rw[ht];have bE:=aa hW aA;clear aA c0 zf;go_wp2;go_roundw
    case rel=>exact⟨q+1,by omega,by go_num,HM.out,bE⟩
    case measure=>simp[intOf];omega
   ·have HM:=hid (iV p l q av HN.out (by rw[← HG.out];exact ht));go_wp2_with fail
    refine HX.out.mono ?_;rintro e w2 ⟨rfl,aA⟩;rw[ht];have bE:=aa hW aA;clear aA c0 zf;go_wp2;go_ret;exact⟨⟨_,rfl,by rw[HR.out,HM.out,if_pos av]⟩,bE⟩
  ·go_wp2;go_ret;exact⟨⟨_,rfl,by rw[HR.out,if_neg (by have:=HN.out;omega)]⟩,hW⟩
theorem nY (rb:Nat) (a:Option Addr) (c:Nat) (w:World):
  Calls Tryz.prog 203 #[.slice a 0 c,.func (.func 200) #[] #[.pointer (some ⟨rb,0,none⟩)]] w fun e w'=>e=.returned (.int .i64 (-1))∧w=w':=by
 go_enter Tryz.func203,Tryz.ntmps203
 go_wp2;refine wp_loop_rounds 1 ?_;rw[rounds_succ];go_wp2;go_ret;exact⟨rfl,rfl⟩
theorem tV (rb:Nat) (p:Nat→Bool) (v:Value) (l:List Nat) (w:World) (h:dn w v l)
  (hp:∀ (x:Nat) W,x∈l→Bel w W→Calls Tryz.prog 200 #[.int .i64 x,.pointer (some ⟨rb,0,none⟩)] W fun e w'=>e=.returned (.bool (p x))∧Bel W w'):
  Calls Tryz.prog 203 #[v,.func (.func 200) #[] #[.pointer (some ⟨rb,0,none⟩)]] w fun e w'=>(∃ r:Int,e=.returned (.int .i64 r)∧r=(if bL p l<l.length then (bL p l:Int) else -1))∧Bel w w':=by
 rcases h with⟨rfl,a,c,rfl⟩|⟨g,c,rfl,h1,h2,h3⟩
 ·refine(nY rb a c w).mono ?_;rintro e w' ⟨rfl,rfl⟩;exact⟨⟨_,rfl,by simp⟩,br⟩
 ·exact n0 rb p g c l w h1 h2 h3 hp
theorem nU (rb fb:Nat) (p:Nat→Bool) (g c:Nat) (l:List Nat) (w:World) (hg:g<w.heap.size) (hl:l.length≤1048576)
  (hc:∀ i,i<l.length→w.cell? ⟨g,i,none⟩=some (.int .i64 (l.getD i 0:Nat)))
  (hp:∀ (x:Nat) W,x∈l→Bel w W→Calls Tryz.prog 199 #[.int .i64 x,.pointer (some ⟨rb,0,none⟩),.pointer (some ⟨fb,0,none⟩)] W fun e w'=>e=.returned (.bool (p x))∧Bel W w'):
  Calls Tryz.prog 203 #[.slice (some ⟨g,0,none⟩) l.length c,.func (.func 199) #[] #[.pointer (some ⟨rb,0,none⟩),.pointer (some ⟨fb,0,none⟩)]] w fun e w'=>(∃ r:Int,e=.returned (.int .i64 r)∧r=(if bL p l<l.length then (bL p l:Int) else -1))∧Bel w w':=by
 have HC:=hid hc;have HP:=hid hp;obtain⟨R,hR⟩:∃ R:Int,R=(if bL p l<l.length then (bL p l:Int) else -1):=⟨_,rfl⟩
 rw[← hR];have HR:=hid hR;clear hc hp hR;go_enter Tryz.func203,Tryz.ntmps203
 go_wp2;go_loopw [8] (fun i wr=>∃ q:Nat,q≤l.length∧i=.int .i64 q∧q≤bL p l∧Bel w wr) (fun i _=>l.length - (intOf i).toNat)
 case atStart=>exact⟨0,nz,rfl,nz,br⟩
 case round=>
  obtain⟨q,hq,rfl,iM,hW⟩:=hrel;have HN:=hid iM;clear iM;by_cases av:q<l.length
  ·have c0:=(hW.cell (p:=⟨g,q,none⟩) hg).trans (HC.out q av);obtain⟨y,hy⟩:∃ y,y=l.getD q 0:=⟨_,rfl⟩
   rw[← hy]at c0;have HX:=hid (HP.out y wr (by rw[hy];simp[av]) hW);have HG:=hid hy;have zf:=lo hg hW.size;clear hy;cases ht:p y
   ·have HM:=hid (ig p l q av HN.out (by rw[← HG.out];exact ht));go_wp2_with fail
    refine HX.out.mono ?_;rintro e w2 ⟨rfl,aA⟩;rw[ht];have bE:=aa hW aA;clear aA c0 zf;go_wp2;go_roundw
    case rel=>exact⟨q+1,by omega,by go_num,HM.out,bE⟩
    case measure=>simp[intOf];omega
   ·have HM:=hid (iV p l q av HN.out (by rw[← HG.out];exact ht));go_wp2_with fail
    refine HX.out.mono ?_;rintro e w2 ⟨rfl,aA⟩;rw[ht];have bE:=aa hW aA;clear aA c0 zf;go_wp2;go_ret;exact⟨⟨_,rfl,by rw[HR.out,HM.out,if_pos av]⟩,bE⟩
  ·go_wp2;go_ret;exact⟨⟨_,rfl,by rw[HR.out,if_neg (by have:=HN.out;omega)]⟩,hW⟩
theorem od (rb fb:Nat) (a:Option Addr) (c:Nat) (w:World):
  Calls Tryz.prog 203 #[.slice a 0 c,.func (.func 199) #[] #[.pointer (some ⟨rb,0,none⟩),.pointer (some ⟨fb,0,none⟩)]] w fun e w'=>e=.returned (.int .i64 (-1))∧w=w':=by
 go_enter Tryz.func203,Tryz.ntmps203
 go_wp2;refine wp_loop_rounds 1 ?_;rw[rounds_succ];go_wp2;go_ret;exact⟨rfl,rfl⟩
theorem uu4 (rb fb:Nat) (p:Nat→Bool) (v:Value) (l:List Nat) (w:World) (h:dn w v l)
  (hp:∀ (x:Nat) W,x∈l→Bel w W→Calls Tryz.prog 199 #[.int .i64 x,.pointer (some ⟨rb,0,none⟩),.pointer (some ⟨fb,0,none⟩)] W fun e w'=>e=.returned (.bool (p x))∧Bel W w'):
  Calls Tryz.prog 203 #[v,.func (.func 199) #[] #[.pointer (some ⟨rb,0,none⟩),.pointer (some ⟨fb,0,none⟩)]] w fun e w'=>(∃ r:Int,e=.returned (.int .i64 r)∧r=(if bL p l<l.length then (bL p l:Int) else -1))∧Bel w w':=by
 rcases h with⟨rfl,a,c,rfl⟩|⟨g,c,rfl,h1,h2,h3⟩
 ·refine(od rb fb a c w).mono ?_;rintro e w' ⟨rfl,rfl⟩;exact⟨⟨_,rfl,by simp⟩,br⟩
 ·exact nU rb fb p g c l w h1 h2 h3 hp
theorem xS (p:Nat→Bool) (l:List Nat):l.any p=decide (bL p l<l.length):=by
 unfold bL;rw[Bool.eq_iff_iff,decide_eq_true_eq,List.any_eq_true,List.findIdx_lt_length]
theorem pO (rb:Nat) (p:Nat→Bool) (v:Value) (l:List Nat) (w:World) (h:dn w v l)
  (hp:∀ (x:Nat) W,x∈l→Bel w W→Calls Tryz.prog 200 #[.int .i64 x,.pointer (some ⟨rb,0,none⟩)] W fun e w'=>e=.returned (.bool (p x))∧Bel W w'):
  Calls Tryz.prog 202 #[v,.func (.func 200) #[] #[.pointer (some ⟨rb,0,none⟩)]] w fun e w'=>e=.returned (.bool (l.any p))∧Bel w w':=by
 have HX:=hid (tV rb p v l w h hp);clear h hp;go_enter Tryz.func202,Tryz.ntmps202
 go_wp2_with fail
 refine HX.out.mono ?_;rintro e w' ⟨⟨r,rfl,hr⟩,hb⟩;have HR:Hid (decide (0≤r)=l.any p):=by
  show decide (0≤r)=l.any p;rw[xS,hr];by_cases hq:bL p l<l.length
  ·rw[if_pos hq];simp[hq]
  ·rw[if_neg hq];simp[hq]
 clear hr;go_wp2;go_ret;exact⟨Pl.ae HR.out,hb⟩
theorem nq {P:Program} {ops:Array Oper} {o:Oper} {a:Act} {w:World} {K:Act→World→Prop} {Q:Exit→Act→World→Prop} {E:Prop}
  (hg:o.guard=none) (s x:Operand) (t:TypeId) (Ea:o.op=Op.call {callee:=Callee.builtin Builtin.append,args:=#[s,x],argTypes:=#[t,t]})
  (base:Nat) (e:TypeId) (i:TypeInfo) (z:Value) (size bytes:Nat) (h1:P.underlying t=some (.slice e)) (h2:P.info? e=some i) (h3:i.zero=some z) (h4:i.size=size) (h5:i.bytes=bytes) (h6:z.cells.size=size) (h7:0<size)
  (v:Value) (n:Nat) (xs:List Value) (hs:a.eval s=v) (cq:w.ownsRow base e size v n xs)
  (ad:Addr) (m c:Nat) (news:List Value) (hx:a.eval x=.slice (some ad) m c) (hn:news.length=m*size) (hc:∀ j u,news[j]? =some u→w.cell? (ad.add j)=some u) (h1c:∀ u∈news,u.oneCell'=true)
  (b1:n+m≤maxLen) (b2:(n+m)*bytes≤140737488355328) (hbase:base≤w.heap.size)
  (hK:∀ v' w',w'.ownsRow base e size v' (n+m) (xs++news)→w.grownBy w' v.ownBlock→K (a.put o.dst v') w'):
  if Region.wanted o (yielded ops a.tmps)=true then Oper.wp P o a w K Q else E:=by
 have hw:Region.wanted o (yielded ops a.tmps)=true:=by simp[Region.wanted,hg]
 rw[if_pos hw];obtain⟨v',w',Hl,r1,r2,_⟩:=run_append_own (P:=P) w base t o.type e i z size bytes h1 h2 h3 h4 h5 h6 h7 v n xs cq ad m c news hn hc h1c b1 b2 hbase;unfold Oper.wp;simp[execOp,Ea,resolve,invoke,builtin,hs,hx,Hl,Result.andThen];exact hK v' w' r1 r2
theorem om {w w':World} (h:Bel w w'):w.grownBy w' none:=⟨h.os,h.tape,h.output,h.size,fun k hk _=>h.block k hk⟩
theorem bV {w w':World} {lo:Nat} {e:TypeId} {size:Nat} {v:Value} {n:Nat} {xs:List Value} (h:w.ownsRow lo e size v n xs) (hb:Bel w w'):w'.ownsRow lo e size v n xs:=
 h.kept (om hb) (by cases hv:v.ownBlock<;>simp)
theorem dS {w:World} {lo:Nat} {e:TypeId} {size:Nat} {v:Value} {n:Nat} {xs:List Value} (h:w.ownsRow lo e size v n xs):∃ a c,v=.slice a n c:=by
 rcases h.2 with⟨rfl,rfl⟩|⟨g,cap,cur,rfl,_⟩
 ·exact⟨_,_,rfl⟩
 ·exact⟨_,_,rfl⟩
def gp (w:World) (lo:Nat) (v:Value) (l:List Nat):Prop:=w.ownsRow lo 3 1 v l.length (l.map fun n=>Value.int .i64 (n:Nat))
theorem gp.at_ {w:World} {lo:Nat} {v:Value} {l:List Nat} (h:gp w lo v l) (hl:l.length≤1048576):dn w v l:=by
 have bP:∀ g,v.ownBlock=some g→∀ j u,(l.map fun n=>Value.int .i64 (n:Nat))[j]? =some u→w.cell? ((⟨g,0,none⟩:Addr).add j)=some u:=fun g hg=>World.ownsRow.cells h hg;rcases h.2 with⟨rfl,hn⟩|⟨g,cap,cur,rfl,_,hg,_⟩
 ·exact Or.inl ⟨List.length_eq_zero_iff.1 hn,_,_,rfl⟩
 ·refine Or.inr ⟨g,cap,rfl,(Array.getElem?_eq_some_iff.1 hg).1,hl,fun i hi=> ?_⟩;have:=bP g rfl i (.int .i64 (l.getD i 0:Nat)) (by simp[hi]);rw[Addr.add_lit,Nat.zero_add]at this;exact this
def jh (rd:Nat→List Nat) (row:List Nat) (x:Nat):Bool:= !eA row x&& !(rd x).any (fun y=> !eA row y)
def iB (rd:Nat→List Nat) (n:Nat) (row:List Nat):Nat:=bL (jh rd row) (List.range n)
def cx (rd:Nat→List Nat) (n:Nat):Nat→List Nat
 |0=> []
 |j+1=>if iB rd n (cx rd n j)<n then cx rd n j++[iB rd n (cx rd n j)] else cx rd n j
def je (rd:Nat→List Nat) (n:Nat):Bool:=decide ((cx rd n n).length=n)
theorem jM (rd:Nat→List Nat) (n:Nat):∀ j,(cx rd n j).length≤j
 |0=>by simp[cx]
 |j+1=>by
  have:=jM rd n j;rw[cx];split
  ·simp;omega
  ·omega
theorem ot (rd:Nat→List Nat) (n j:Nat) (h:n≤iB rd n (cx rd n j)):∀ k,cx rd n (j+k)=cx rd n j
 |0=>rfl
 |k+1=>by
  have:=ot rd n j h k;rw[← Nat.add_assoc,cx,this,if_neg (by omega)]
theorem sV (rd:Nat→List Nat) (n j:Nat) (hj:j<n) (h:n≤iB rd n (cx rd n j)):je rd n=false:=by
 have e:=ot rd n j h (n - j);rw[Nat.add_sub_of_le (Nat.le_of_lt hj)]at e;have:=jM rd n j;unfold je;rw[e];simp;omega
theorem mD (rd:Nat→List Nat) (n j:Nat) (h:iB rd n (cx rd n j)<n):cx rd n (j+1)=cx rd n j++[iB rd n (cx rd n j)]:=by
 rw[cx,if_pos h]
theorem Ft (rb fb mb:Nat) (l rd:List Nat) (a:Option Addr) (n c x:Nat) (w:World) (BY:rb<w.heap.size) (hc:w.cell? ⟨rb,0,none⟩=some (.slice a n c)) (h:dn w (.slice a n c) l)
  (hf:w.cell? ⟨fb,0,none⟩=some (.func (.func 175) #[] #[.pointer (some ⟨mb,0,none⟩)]))
  (hr:Calls Tryz.prog 175 #[.int .i64 x,.pointer (some ⟨mb,0,none⟩)] w fun e w'=>(∃ a n c,e=.returned (.slice a n c)∧dn w' (.slice a n c) rd)∧Bel w w'):
  Calls Tryz.prog 199 #[.int .i64 x,.pointer (some ⟨rb,0,none⟩),.pointer (some ⟨fb,0,none⟩)] w fun e w'=>e=.returned (.bool (!eA l x&& !rd.any (fun y=> !eA l y)))∧Bel w w':=by
 have HM:Hid (∀ y W,Bel w W→Calls Tryz.prog 200 #[.int .i64 (y:Nat),.pointer (some ⟨rb,0,none⟩)] W fun e w'=>e=.returned (.bool (!eA l y))∧W=w'):=
  fun y W hW=>missing rb a n c l y W ((hW.cell (p:=⟨rb,0,none⟩) BY).trans hc) (h.later hW)
 have HR:=hid hr;clear h hr hc;cases bA:eA l x
 ·obtain⟨R,hR⟩:∃ R,R=rd.any (fun y=> !eA l y):=⟨_,rfl⟩
  rw[← hR];have fg:=hid hR;clear hR;go_enter Tryz.func199,Tryz.ntmps199
  go_wp2_with fail
  refine(HM.out x w br).mono ?_;rintro e w' ⟨rfl,rfl⟩;rw[bA];go_wp2_with fail
  refine HR.out.mono ?_;rintro e w2 ⟨⟨a2,n2,c2,rfl,hi⟩,aA⟩;have HI:=hid hi;have HB:=hid aA;clear hi aA;go_wp2_with fail
  refine(pO rb (fun y=> !eA l y) (.slice a2 n2 c2) rd w2 HI.out (fun y W _ hW=>(HM.out y W (aa HB.out hW)).mono ?_)).mono ?_
  ·rintro e w' ⟨rfl,rfl⟩;exact⟨rfl,br⟩
  rintro e w3 ⟨rfl,aO⟩;rw[← fg.out];have eX:=aa HB.out aO;clear aO;go_wp2;go_ret;exact⟨rfl,eX⟩
 ·go_enter Tryz.func199,Tryz.ntmps199
  go_wp2_with fail
  refine(HM.out x w br).mono ?_;rintro e w' ⟨rfl,rfl⟩;rw[bA];go_wp2;go_ret;exact⟨rfl,br⟩
end Go.Proofs.YtbiokpmdghmgcaaGreat
namespace Go.Proofs.YtbiokpmdghmgcaaGreat
set_option maxRecDepth 8000
set_option maxHeartbeats 40000000
open Go.RowKit Go.Deep
theorem Tryz.zS:(Tryz.prog.info? 3).map (fun i=>(i.zero,i.size,i.bytes))=some (some (.int .i64 0),1,8):=by kernel_rfl
structure gj (w0 wr:World) (mb:Nat) (l:List Nat) (v:Value):Prop where
 bel:Bel w0 wr
 fn:wr.cell? ⟨w0.heap.size,0,none⟩=some (.func (.func 175) #[] #[.pointer (some ⟨mb,0,none⟩)])
 own:ai wr (w0.heap.size+1) 98 1
 box:wr.cell? ⟨w0.heap.size+1,0,none⟩=some v
 row:gp wr (w0.heap.size+2) v l
theorem gj.later {w0 wr wr':World} {mb:Nat} {l:List Nat} {v:Value} (h:gj w0 wr mb l v) (hb:Bel wr wr'):gj w0 wr' mb l v:=
 ⟨aa h.bel hb,(hb.cell (p:=⟨w0.heap.size,0,none⟩) (by have:=h.own.lt;show w0.heap.size<_;omega)).trans h.fn,h.own.later hb,(hb.cell (p:=⟨w0.heap.size+1,0,none⟩) h.own.lt).trans h.box,bV h.row hb⟩
theorem gj.start (w:World) (mb:Nat):
  gj w ((w.alloc (.cells #[.func (.func 175) #[] #[.pointer (some ⟨mb,0,none⟩)]] 241)).alloc (.cells #[.slice none 0 0] 98)) mb [] (.slice none 0 0):=
 ⟨ab (ab br _) _,by simp,by have:=ai.alloc (w.alloc (.cells #[.func (.func 175) #[] #[.pointer (some ⟨mb,0,none⟩)]] 241)) #[.slice none 0 0] 98 1 rfl;simpa using this,by simp,World.ownsRow_nil _ _ _ _⟩
theorem wv {w:World} {lo:Nat} {e:TypeId} {size:Nat} {v:Value} {n:Nat} {xs:List Value} (h:w.ownsRow lo e size v n xs) {B:Nat} (hB:B<lo) (o:Nat) (x:Value):(w.setCell ⟨B,o,none⟩ x).ownsRow lo e size v n xs:=by
 refine⟨h.1, ?_⟩;rcases h.2 with hn|⟨g,cap,cur,rfl,hb,hg,rest⟩
 ·exact Or.inl hn
 ·refine Or.inr ⟨g,cap,cur,rfl,hb, ?_,rest⟩;rw[Below.heap_setCell w ⟨B,o,none⟩ x g (by show g≠B;omega)];exact hg
theorem gj.put {w0 wr w1 w2:World} {mb:Nat} {l:List Nat} {v v':Value} {q:Nat} (h:gj w0 wr mb l v) (hb:Bel wr w1) (ho:w2.ownsRow (w0.heap.size+2) 3 1 v' (l.length+1) (l.map (fun n=>Value.int .i64 (n:Nat))++[.int .i64 (q:Nat)])) (hg:w1.grownBy w2 v.ownBlock):
  gj w0 (w2.setCell ⟨w0.heap.size+1,0,none⟩ v') mb (l++[q]) v':=by
 have h1:=h.later hb;have hr:∀ k,v.ownBlock=some k→w0.heap.size+2≤k:=fun k hk=>(h1.row.lt k hk).1;have tw:=h1.own.lt;have Ho:Bel w0 w2:=Below.grown h1.bel hg h1.bel.size (fun k hk=>by have:=hr k hk;omega);have BU:∀ k,k<w0.heap.size+2→w2.heap[k]? =w1.heap[k]? :=fun k hk=>hg.block k (by omega) (fun e=>by have:=hr k e.symm;omega);have cq:ai w2 (w0.heap.size+1) 98 1:=by
  obtain⟨cs,c1,c2⟩:=h1.own;exact⟨cs,by rw[BU _ (by omega)];exact c1,c2⟩
 refine⟨Ho.setCell (p:=⟨w0.heap.size+1,0,none⟩) (by show _≤w0.heap.size+1;omega) _, ?_,cq.setCell 0 _,eL cq 0 (by omega) _, ?_⟩
 ·rw[aF _ _ _ _ _ _ (Or.inl (by omega))];exact(World.cell?_of_block (a:=⟨w0.heap.size,0,none⟩) (BU _ (by show w0.heap.size<_;omega))).trans h1.fn
 ·have:=wv ho (B:=w0.heap.size+1) (by omega) 0 v';unfold gp;rw[List.length_append,List.map_append];exact this
theorem gj.mid {w0 wr w1 w2:World} {mb:Nat} {l:List Nat} {v:Value} (h:gj w0 wr mb l v) (hb:Bel wr w1) (hg:w1.grownBy w2 v.ownBlock):ai w2 (w0.heap.size+1) 98 1∧w2.cell? ⟨w0.heap.size+1,0,none⟩=some v:=by
 have h1:=h.later hb;have hr:∀ k,v.ownBlock=some k→w0.heap.size+2≤k:=fun k hk=>(h1.row.lt k hk).1;have tw:=h1.own.lt;have BU:∀ k,k<w0.heap.size+2→w2.heap[k]? =w1.heap[k]? :=fun k hk=>hg.block k (by omega) (fun e=>by have:=hr k e.symm;omega);refine⟨?_,(World.cell?_of_block (a:=⟨w0.heap.size+1,0,none⟩) (BU _ (by show w0.heap.size+1<_;omega))).trans h1.box⟩;obtain⟨cs,c1,c2⟩:=h1.own;exact⟨cs,by rw[BU _ (by omega)];exact c1,c2⟩
theorem LF (tb c mb n:Nat) (rd:Nat→List Nat) (w:World) (hn:n≤1048576) (zm:tb<w.heap.size) (ht:∀ i,i<n→w.cell? ⟨tb,i,none⟩=some (.int .i64 (i:Nat)))
  (Co:∀ (x:Nat) W,x<n→Bel w W→Calls Tryz.prog 175 #[.int .i64 x,.pointer (some ⟨mb,0,none⟩)] W fun e w'=>(∃ a n c,e=.returned (.slice a n c)∧dn w' (.slice a n c) (rd x))∧Bel W w'):
  Calls Tryz.prog 174 #[.slice (some ⟨tb,0,none⟩) n c,.func (.func 175) #[] #[.pointer (some ⟨mb,0,none⟩)]] w fun e w'=>(∃ a k d,e=.returned (.tuple #[.slice a k d,.bool (je rd n)])∧(je rd n=true→dn w' (.slice a k d) (cx rd n n)))∧Bel w w':=by
 have HT:=hid ht;have HD:=hid Co;obtain⟨i0,hi,mR,jr,gX⟩:=info_parts Tryz.zS;have Hy:=hid (gj.start w mb);clear ht Co;go_enter Tryz.func174,Tryz.ntmps174
 go_wp2;go_loopw [12] (fun i wr=>∃ j:Nat,j≤n∧i=.int .i64 j∧(cx rd n j).length=j∧∃ v,gj w wr mb (cx rd n j) v) (fun i _=>n - (intOf i).toNat)
 case atStart=>exact⟨0,nz,rfl,rfl,_,Hy.out⟩
 case round=>
  obtain⟨j,hj,rfl,hlen,v,hI⟩:=hrel;obtain⟨a,d,hv⟩:=dS hI.row;rw[hlen]at hv;subst hv;have HI:=hid hI;have HL:=hid hlen;clear hI hlen Hy;have Cb:=HI.out.box;have gW:=HI.out.own.lt;by_cases av:j<n
  ·have HX:Hid (Calls Tryz.prog 203 #[.slice (some ⟨tb,0,none⟩) n c,.func (.func 199) #[] #[.pointer (some ⟨w.heap.size+1,0,none⟩),.pointer (some ⟨w.heap.size,0,none⟩)]] wr fun e w'=>(∃ r:Int,e=.returned (.int .i64 r)∧r=(if iB rd n (cx rd n j)<n then (iB rd n (cx rd n j):Int) else -1))∧Bel wr w'):=by
    have dO:dn wr (.slice (some ⟨tb,0,none⟩) n c) (List.range n):=Or.inr ⟨tb,c,by simp,lo zm HI.out.bel.size,by simpa using hn,fun i hi=>by
     have BZ:i<n:=by simpa using hi
     rw[(HI.out.bel.cell (p:=⟨tb,i,none⟩) zm).trans (HT.out i BZ)];simp[BZ]⟩
    have:=uu4 (w.heap.size+1) w.heap.size (jh rd (cx rd n j)) _ (List.range n) wr dO (fun x W hx hW=>by
     have J3:x<n:=by simpa using hx
     have h2:=HI.out.later hW;exact Ft (w.heap.size+1) w.heap.size mb (cx rd n j) (rd x) a j d x W h2.own.lt h2.box (h2.row.at_ (by rw[HL.out];omega)) h2.fn (HD.out x W J3 h2.bel))
    rw[List.length_range]at this;exact this
   obtain⟨q,hq⟩:∃ q,q=iB rd n (cx rd n j):=⟨_,rfl⟩
   have HQ:=hid hq;rw[← hq]at HX;clear hq;go_wp2_with fail
   refine HX.out.mono ?_;rintro e w2 ⟨⟨r,rfl,hr⟩,aA⟩;have iH:=hid aA;have hb0':=(HI.out.later aA).box;have hbl':=(HI.out.later aA).own.lt;have ij:=(HI.out.later aA).own.frozen;clear aA HX;by_cases hqn:q<n
   ·rw[if_pos hqn]at hr;subst hr;have hcq:=((aa HI.out.bel iH.out).cell (p:=⟨tb,q,none⟩) zm).trans (HT.out q hqn);have htb2:=lo zm (aa HI.out.bel iH.out).size;have pI:Hid (cx rd n (j+1)=cx rd n j++[q]):=by have:=mD rd n j (by rw[← HQ.out];exact hqn);rw[← HQ.out]at this;exact this
    have HO:Hid (∀ W,Bel w2 W→W.ownsRow (w.heap.size+2) 3 1 (.slice a j d) j ((cx rd n j).map fun n=>Value.int .i64 (n:Nat))):=by
     intro W hW;have:=(HI.out.later (aa iH.out hW)).row;unfold gp at this;rw[HL.out]at this;exact this
    go_wp2_with fail
    go_region_law (refine nq rfl (.tmp 19) (.tmp 24) 98 rfl (w.heap.size+2) 3 i0 (.int .i64 0) 1 8 Tryz.underlying98 hi mR jr gX rfl (by decide) (.slice a j d) j _ (by simp[Act.eval]) (HO.out _ (by repeat(first|exact br|refine ab ?_ _|refine Below.drew ?_))) ⟨w2.heap.size,0,none⟩ 1 1 [.int .i64 (q:Nat)] (by simp[Act.eval]) rfl (by intro k u hk;cases k with|zero=>(simp at hk;subst hk;simp[Addr.add])|succ k=>simp at hk) (by intro u hu;simp at hu;subst hu;rfl) (by unfold maxLen;omega) (by omega) (by simp;omega) ?_;intro v' w' cq ct;obtain⟨a',d',Cc⟩:=dS cq;subst Cc;have HNI:Hid (gj w (w'.setCell ⟨w.heap.size+1,0,none⟩ (.slice a' (j+1) d')) mb (cx rd n (j+1)) (.slice a' (j+1) d')):=(by show gj _ _ _ _ _;rw[pI.out];exact HI.out.put (by refine aa iH.out ?_;repeat(first|exact br|refine ab ?_ _|refine Below.drew ?_)) (by rw[HL.out];exact cq) ct);have j8:=HI.out.mid (by refine aa iH.out ?_;repeat(first|exact br|refine ab ?_ _|refine Below.drew ?_)) ct;have hfw:=j8.1.frozen;have hcw:=j8.2;clear j8 cq ct)
    all_goals
     go_wp2;go_roundw
     case rel=>exact⟨j+1,by omega,by go_num,by rw[pI.out,List.length_append,HL.out];rfl,_,HNI.out⟩
     case measure=>simp[intOf];omega
   ·rw[if_neg hqn]at hr;subst hr;have HF:=hid (sV rd n j av (by rw[← HQ.out];omega));go_wp2;go_ret2;exact⟨⟨none,0,0,by rw[HF.out];rfl,fun h=>by rw[HF.out]at h;cases h⟩,aa HI.out.bel iH.out⟩
  ·obtain rfl:j=n:=by omega
   have HF:Hid (je rd j=true):=by show _=_;unfold je;rw[HL.out];simp
   go_wp2;go_ret2;exact⟨⟨a,j,d,by rw[HF.out];rfl,fun _=>HI.out.row.at_ (by rw[HL.out];omega)⟩,HI.out.bel⟩
end Go.Proofs.YtbiokpmdghmgcaaGreat
namespace Go.Proofs.YtbiokpmdghmgcaaGreat
open Go.RowKit Go.Deep
structure lv where
 place:Nat
 anyth:Bool
 is_:ByteArray
structure Mng where
 field:Nat
 needs:List lv
 put:ByteArray
 frm:Nat
def Mng.none:Mng:=⟨0,[],ByteArray.empty,0⟩
def bb (n:lv):List Value:=[.int .i64 (n.place:Nat),.bool n.anyth,.string n.is_]
def dy (ns:List lv):List Value:=ns.flatMap bb
theorem kZ:∀ (ns:List lv) (i j:Nat),i<ns.length→j<3→(dy ns)[i*3+j]? =(bb (ns.getD i ⟨0,false,ByteArray.empty⟩))[j]?
 |[],i,_,h,_=>absurd h (Nat.not_lt_zero i)
 |n::ns,0,j,_,hj=>by
  unfold dy;rw[List.flatMap_cons,Nat.zero_mul,Nat.zero_add,List.getElem?_append_left (by simp[bb];omega)];rfl
 |n::ns,i+1,j,h,hj=>by
  have:=kZ ns i j (by simpa using h) hj;unfold dy at this ⊢;rw[List.flatMap_cons,List.getElem?_append_right (by simp[bb];omega)];rw[show (i+1)*3+j - (bb n).length=i*3+j by simp[bb];omega,this];simp
def gq (w:World) (lo:Nat) (v:Value) (ns:List lv):Prop:=w.ownsRow lo 240 3 v ns.length (dy ns)
theorem n9 {w:World} {lo lo':Nat} {e:TypeId} {size:Nat} {v:Value} {n:Nat} {xs:List Value} (h:w.ownsRow lo e size v n xs) (hl:lo'≤lo):w.ownsRow lo' e size v n xs:=by
 refine⟨h.1, ?_⟩;rcases h.2 with hn|⟨g,cap,cur,rfl,hb,rest⟩
 ·exact Or.inl hn
 ·exact Or.inr ⟨g,cap,cur,rfl,by omega,rest⟩
theorem jV {w:World} {lo:Nat} {e:TypeId} {size:Nat} {v:Value} {n:Nat} {xs:List Value} (h:w.ownsRow lo e size v n xs) {k:Nat} {t:TypeId} {m:Nat} (ho:ai w k t m) (ht:t≠e):some k≠v.ownBlock:=by
 intro hk;rcases h.2 with⟨rfl,_⟩|⟨g,cap,cur,rfl,_,hg,_⟩
 ·cases hk
 ·injection hk with hk
  subst hk;obtain⟨cs,h1,_⟩:=ho;have hg':w.heap[k]? =some (.cells cur e (0,0)):=hg;rw[h1]at hg';injection hg' with hq
  injection hq with _ q2 _
  exact ht q2
theorem ai.grown {w w':World} {row:Option Nat} {b:Nat} {t:TypeId} {m:Nat} (h:ai w b t m) (hg:w.grownBy w' row) (fe:some b≠row):ai w' b t m:=by
 have hl:=h.lt;obtain⟨cs,h1,h2⟩:=h;exact⟨cs,by rw[hg.block b hl fe];exact h1,h2⟩
theorem ll {w w':World} {row:Option Nat} {b o:Nat} (hl:b<w.heap.size) (hg:w.grownBy w' row) (fe:some b≠row):w'.cell? ⟨b,o,none⟩=w.cell? ⟨b,o,none⟩:=
 World.cell?_of_block (a:=⟨b,o,none⟩) (hg.block b hl fe)
theorem se {w:World} {lo:Nat} {e:TypeId} {size:Nat} {v:Value} {n:Nat} {xs:List Value} (h:w.ownsRow lo e size v n xs) {B:Nat} (hB:some B≠v.ownBlock) (o:Nat) (x:Value):(w.setCell ⟨B,o,none⟩ x).ownsRow lo e size v n xs:=by
 refine⟨h.1, ?_⟩;rcases h.2 with hn|⟨g,cap,cur,rfl,hb,hg,rest⟩
 ·exact Or.inl hn
 ·refine Or.inr ⟨g,cap,cur,rfl,hb, ?_,rest⟩;rw[Below.heap_setCell w ⟨B,o,none⟩ x g (by show g≠B;intro e;subst e;exact hB rfl)];exact hg
theorem oV {w w':World} {lo:Nat} {e e':TypeId} {size:Nat} {v v':Value} {n:Nat} {xs:List Value} {lo' size' n':Nat} {xs':List Value} (h:w.ownsRow lo e size v n xs) (h':w.ownsRow lo' e' size' v' n' xs') (fe:e≠e') (hg:w.grownBy w' v'.ownBlock):w'.ownsRow lo e size v n xs:=by
 refine h.kept hg ?_;rcases h.2 with⟨rfl,_⟩|⟨g,cap,cur,rfl,_,yN,_,_,hs,_⟩
 ·exact Or.inl rfl
 ·exact Or.inr (jV h' (k:=g) (t:=e) (m:=cur.size) ⟨cur,yN,rfl⟩ fe)
structure kW (w0 wr:World) (B:Nat) (m:Mnd) (x:Mng) (v:Value):Prop where
 bel:Bel w0 wr
 box:ai wr w0.heap.size 136 6
 cells:ga wr w0.heap.size 0 m
 res:ai wr (w0.heap.size+1) 238 4
 lt:w0.heap.size+1<B
 own:ai wr B 238 4
 c0:wr.cell? ⟨B,0,none⟩=some (.int .i64 (x.field:Nat))
 c1:wr.cell? ⟨B,1,none⟩=some v
 c2:wr.cell? ⟨B,2,none⟩=some (.string x.put)
 c3:wr.cell? ⟨B,3,none⟩=some (.int .i64 (x.frm:Nat))
 needs:gq wr (w0.heap.size+2) v x.needs
theorem kW.later {w0 wr w':World} {B:Nat} {m:Mnd} {x:Mng} {v:Value} (h:kW w0 wr B m x v) (hb:Bel wr w'):kW w0 w' B m x v:=by
 have hl:=h.own.lt;have c:∀ o,w'.cell? ⟨B,o,none⟩=wr.cell? ⟨B,o,none⟩:=fun o=>hb.cell (p:=⟨B,o,none⟩) hl;exact⟨aa h.bel hb,h.box.later hb,h.cells.later hb h.box.lt,h.res.later hb,h.lt,h.own.later hb,(c _).trans h.c0,(c _).trans h.c1,(c _).trans h.c2,(c _).trans h.c3,bV h.needs hb⟩
theorem kW.Bi {w0 wr:World} {B:Nat} {m:Mnd} {x:Mng} {v:Value} (h:kW w0 wr B m x v) (k:Nat):kW w0 (wr.setCell ⟨B,3,none⟩ (.int .i64 (k:Nat))) B m ⟨x.field,x.needs,x.put,k⟩ v:=by
 have hl:=h.lt;have c:∀ b o,(b≠B∨o≠3)→(wr.setCell ⟨B,3,none⟩ (.int .i64 (k:Nat))).cell? ⟨b,o,none⟩=wr.cell? ⟨b,o,none⟩:=fun b o hb=>aF _ _ _ _ _ _ hb;have q:=h.cells;exact⟨h.bel.setCell (p:=⟨B,3,none⟩) (by show _≤B;omega) _,h.box.bk (by omega) _ _,⟨(c _ _ (by omega)).trans q.c0,(c _ _ (by omega)).trans q.c1,(c _ _ (by omega)).trans q.c2,(c _ _ (by omega)).trans q.c3,(c _ _ (by omega)).trans q.c4,(c _ _ (by omega)).trans q.c5,q.sized⟩,h.res.bk (by omega) _ _,h.lt,h.own.setCell _ _,(c _ _ (by omega)).trans h.c0,(c _ _ (by omega)).trans h.c1,(c _ _ (by omega)).trans h.c2,eL h.own 3 (by omega) _,se h.needs (jV h.needs h.own (by decide)) _ _⟩
theorem kW.mid {w0 wr w1 w2:World} {B:Nat} {m:Mnd} {x:Mng} {v:Value} (h:kW w0 wr B m x v) (hb:Bel wr w1) (hg:w1.grownBy w2 v.ownBlock):ai w2 B 238 4∧w2.cell? ⟨B,1,none⟩=some v:=by
 have h1:=h.later hb;have fe:=jV h1.needs h1.own (by decide);exact⟨h1.own.grown hg fe,(ll h1.own.lt hg fe).trans h1.c1⟩
theorem kW.add {w0 wr w1 w2:World} {B:Nat} {m:Mnd} {x:Mng} {v v':Value} {nd:lv} (h:kW w0 wr B m x v) (hb:Bel wr w1) (ho:w2.ownsRow (w0.heap.size+2) 240 3 v' (x.needs.length+1) (dy x.needs++bb nd)) (hg:w1.grownBy w2 v.ownBlock):
  kW w0 (w2.setCell ⟨B,1,none⟩ v') B m ⟨x.field,x.needs++[nd],x.put,x.frm⟩ v':=by
 have h1:=h.later hb;have nB:=jV h1.needs h1.own (by decide);have nx:=jV h1.needs h1.box (by decide);have nr:=jV h1.needs h1.res (by decide);have hl:=h.lt;have oB:=h1.own.grown hg nB;have c:∀ o,o≠1→(w2.setCell ⟨B,1,none⟩ v').cell? ⟨B,o,none⟩=w1.cell? ⟨B,o,none⟩:=fun o ho=>(aF _ _ _ _ _ _ (by omega)).trans (ll h1.own.lt hg nB);have d:∀ o,(w2.setCell ⟨B,1,none⟩ v').cell? ⟨w0.heap.size,o,none⟩=w1.cell? ⟨w0.heap.size,o,none⟩:=fun o=>(aF _ _ _ _ _ _ (by omega)).trans (ll h1.box.lt hg nx);have hr:∀ k,v.ownBlock=some k→w0.heap.size≤k:=fun k hk=>by have:=(World.ownsRow.lt h1.needs k hk).1;omega
 have Ho:Bel w0 w2:=Below.grown h1.bel hg h1.bel.size hr;have q:=h1.cells;refine⟨Ho.setCell (p:=⟨B,1,none⟩) (by show _≤B;omega) _,(h1.box.grown hg nx).bk (by omega) _ _,⟨(d _).trans q.c0,(d _).trans q.c1,(d _).trans q.c2,(d _).trans q.c3,(d _).trans q.c4,(d _).trans q.c5,q.sized⟩,(h1.res.grown hg nr).bk (by omega) _ _,hl,oB.setCell _ _,(c _ (by omega)).trans h1.c0,eL oB 1 (by omega) _,(c _ (by omega)).trans h1.c2,(c _ (by omega)).trans h1.c3, ?_⟩;have:=se ho (jV ho oB (by decide)) 1 v';unfold gq dy at*;rw[List.length_append,List.flatMap_append];simpa using this
end Go.Proofs.YtbiokpmdghmgcaaGreat
namespace Go.Proofs.YtbiokpmdghmgcaaGreat
set_option maxRecDepth 8000
set_option maxHeartbeats 40000000
open Go.RowKit Go.Deep
def dX (fs:List Fld) (m:Mnd):List lv:=
 (if Pl.aE m.whn=true then [] else [⟨nameAt fs m.whn,false,m.is_⟩])++(if Pl.aE m.frm=true then [] else [⟨nameAt fs m.frm,true,ByteArray.empty⟩])
def ec (fs:List Fld) (m:Mnd):Mng:=⟨nameAt fs m.field,dX fs m,m.put,if Pl.aE m.frm=true then 0 else nameAt fs m.frm⟩
theorem Tryz.CE:(Tryz.prog.info? 240).map (fun i=>(i.zero,i.size,i.bytes))=some (some (.agg #[.int .i64 0,.bool false,.string ByteArray.empty]),3,32):=by kernel_rfl
structure n6 (w0 wr:World) (m:Mnd):Prop where
 bel:Bel w0 wr
 box:ai wr w0.heap.size 136 6
 cells:ga wr w0.heap.size 0 m
 res:ai wr (w0.heap.size+1) 238 4
theorem n6.later {w0 wr w':World} {m:Mnd} (h:n6 w0 wr m) (hb:Bel wr w'):n6 w0 w' m:=
 ⟨aa h.bel hb,h.box.later hb,h.cells.later hb h.box.lt,h.res.later hb⟩
theorem n6.start (w:World) (m:Mnd) (hs:m.sized):
  n6 w ((w.alloc (.cells #[.string m.kind,.string m.field,.string m.whn,.string m.is_,.string m.put,.string m.frm] 136)).alloc (.cells #[.int .i64 0,.slice none 0 0,.string ⟨#[]⟩,.int .i64 0] 238)) m:=by
 have hO:=ai.alloc w #[.string m.kind,.string m.field,.string m.whn,.string m.is_,.string m.put,.string m.frm] 136 6 rfl;have hR:=ai.alloc (w.alloc (.cells #[.string m.kind,.string m.field,.string m.whn,.string m.is_,.string m.put,.string m.frm] 136)) #[.int .i64 0,.slice none 0 0,.string ⟨#[]⟩,.int .i64 0] 238 4 rfl;refine⟨ab (ab br _) _,hO.cy _,⟨by simp,by simp,by simp,by simp,by simp,by simp,hs⟩, ?_⟩;simpa using hR
theorem n6.out {w0 wr:World} {m:Mnd} (h:n6 w0 wr m) (f:Nat):
  kW w0 (wr.alloc (.cells #[.int .i64 (f:Nat),.slice none 0 0,.string m.put,.int .i64 0] 238)) wr.heap.size m ⟨f,[],m.put,0⟩ (.slice none 0 0):=by
 have hb:Bel wr (wr.alloc (.cells #[.int .i64 (f:Nat),.slice none 0 0,.string m.put,.int .i64 0] 238)):=ab br _;have h1:=h.later hb;exact⟨h1.bel,h1.box,h1.cells,h1.res,h.res.lt,ai.alloc wr _ 238 4 rfl,by simp,by simp,by simp,by simp,World.ownsRow_nil _ _ _ _⟩
theorem n6.put {w0 wr:World} {m:Mnd} (h:n6 w0 wr m) (f B:Nat) (hB:w0.heap.size+1<B) (ho:ai wr B 238 4):
  kW w0 (aI wr B 0 0 [.int .i64 (f:Nat),.slice none 0 0,.string m.put,.int .i64 0]) B m ⟨f,[],m.put,0⟩ (.slice none 0 0):=by
 have c:∀ o,(aI wr B 0 0 [.int .i64 (f:Nat),.slice none 0 0,.string m.put,.int .i64 0]).cell? ⟨w0.heap.size,o,none⟩=wr.cell? ⟨w0.heap.size,o,none⟩:=fun o=>bt B 0 _ o _ wr 0 (by omega);have q:=h.cells;have d:=fun i hi=>cB 0 [.int .i64 (f:Nat),.slice none 0 0,.string m.put,.int .i64 0] wr 0 ho (by simp) i hi;exact⟨aY (a:=w0) _ (by omega) _ _ _ h.bel,bS 0 (by omega) _ wr 0 h.box,⟨(c _).trans q.c0,(c _).trans q.c1,(c _).trans q.c2,(c _).trans q.c3,(c _).trans q.c4,(c _).trans q.c5,q.sized⟩,bS 0 (by omega) _ wr 0 h.res,hB,fM 0 _ _ _ ho,d 0 (by simp),d 1 (by simp),d 2 (by simp),d 3 (by simp),World.ownsRow_nil _ _ _ _⟩
theorem kW.fin {w0 wr:World} {B:Nat} {m:Mnd} {x:Mng} {v:Value} (h:kW w0 wr B m x v) (vs:List Value) (hv:vs=[.int .i64 (x.field:Nat),v,.string x.put,.int .i64 (x.frm:Nat)]):
  (∀ i,i<4→(aI wr (w0.heap.size+1) 0 0 vs).cell? ⟨w0.heap.size+1,i,none⟩=vs[i]?)∧gq (aI wr (w0.heap.size+1) 0 0 vs) w0.heap.size v x.needs∧Bel w0 (aI wr (w0.heap.size+1) 0 0 vs):=by
 have hl:vs.length=4:=by rw[hv];rfl
 refine⟨fun i hi=> ?_, ?_,aY (a:=w0) 0 (by omega) _ _ _ h.bel⟩
 ·have:=cB 0 vs wr 0 h.res (by omega) i (by omega);simpa using this
 ·have:∀ (us:List Value) (W:World) (j:Nat),W.ownsRow (w0.heap.size+2) 240 3 v x.needs.length (dy x.needs)→(aI W (w0.heap.size+1) 0 j us).ownsRow (w0.heap.size+2) 240 3 v x.needs.length (dy x.needs):=by
   intro us;induction us with
   |nil=>intro W j h;exact h
   |cons u us ih=>intro W j h;exact ih _ _ (wv h (by omega) _ _)
  exact n9 (this vs wr 0 h.needs) (by omega)
theorem xl (fb:Nat) (fs:List Fld) (m:Mnd) (w:World) (h:bW w fb fs) (hm:m.sized) (h0:nameAt fs m.field<fs.length) (h1:Pl.aE m.whn=false→nameAt fs m.whn<fs.length) (h2:Pl.aE m.frm=false→nameAt fs m.frm<fs.length):
  Calls Tryz.prog 176 #[.slice (some ⟨fb,0,none⟩) fs.length fs.length,.agg #[.string m.kind,.string m.field,.string m.whn,.string m.is_,.string m.put,.string m.frm]] w fun e w'=>
   (∃ a n c,e=.returned (.agg #[.int .i64 ((ec fs m).field:Nat),.slice a n c,.string m.put,.int .i64 ((ec fs m).frm:Nat)])∧gq w' w.heap.size (.slice a n c) (dX fs m))∧Bel w w':=by
 have HF:Hid (∀ k W,Bel w W→nameAt fs k<fs.length→Calls Tryz.prog 195 #[.slice (some ⟨fb,0,none⟩) fs.length fs.length,.string k] W fun e w'=>e=.returned (.int .i64 (nameAt fs k:Nat))∧Bel W w'):=by
  intro k W hW hk;refine(fieldPlace fb fs k W (h.later hW)).mono ?_;rintro e w' ⟨⟨r,rfl,hr⟩,hb⟩;rw[if_pos hk]at hr;subst hr;exact⟨rfl,hb⟩
 have pC:=hid (n6.start w m hm);have HN:=hid (And.intro h0 (And.intro h1 h2));obtain⟨i0,hi,mR,jr,gX⟩:=info_parts Tryz.CE;clear h hm h0 h1 h2;obtain⟨pf,BT⟩:∃ pf,pf=nameAt fs m.field:=⟨_,rfl⟩
 have I0:=hid BT;clear BT;go_enter Tryz.func176,Tryz.ntmps176
 go_upto_region 1 with fail
 obtain⟨W0,hW0⟩:∃ W0,W0=((w.alloc (.cells #[.string m.kind,.string m.field,.string m.whn,.string m.is_,.string m.put,.string m.frm] 136)).alloc (.cells #[.int .i64 0,.slice none 0 0,.string ⟨#[]⟩,.int .i64 0] 238)):=⟨_,rfl⟩
 rw[← hW0]at pC ⊢;clear hW0;have e1:=pC.out.cells.c1;have e4:=pC.out.cells.c4;have hl0:=pC.out.box.lt;have gd:=hid pC.out.bel;go_cut [5] (fun s wx=>∃ B,s=.pointer (some ⟨B,0,none⟩)∧kW w wx B m ⟨pf,[],m.put,0⟩ (.slice none 0 0))
 case first=>
  have GD:Hid (∀ W,Bel w W→Calls Tryz.prog 195 #[.slice (some ⟨fb,0,none⟩) fs.length fs.length,.string m.field] W fun e w'=>e=.returned (.int .i64 (pf:Nat))∧Bel W w'):=by
   intro W hW;have:=HF.out m.field W hW HN.out.1;rw[← I0.out]at this;exact this
  clear HF;go_region_with (go_at_call 195;refine(GD.out _ ?_).mono ?_;(repeat(first|exact gd.out|refine ab ?_ _|refine Below.drew ?_));rintro e w2 ⟨rfl,aA⟩;have vo:Hid (n6 w w2 m):=pC.out.later (aa (by repeat(first|exact br|refine ab ?_ _|refine Below.drew ?_)) aA);have d4:w2.cell? ⟨w.heap.size,4,none⟩=some (.string m.put):=vo.out.cells.c4;have ET:w.heap.size<w2.heap.size:=vo.out.box.lt;(try have oA:Hid (ai w2 W0.heap.size 238 4):=ai.later (by exact ai.alloc W0 _ 238 4 rfl) aA);(try (have hfA:=oA.out.frozen;have zA:=oA.out.lt;obtain⟨y0,kE⟩:=oA.out.cell 0 (by omega);obtain⟨y1,kF⟩:=oA.out.cell 1 (by omega);obtain⟨y2,kx⟩:=oA.out.cell 2 (by omega);obtain⟨y3,kG⟩:=oA.out.cell 3 (by omega)));clear aA)
  all_goals (go_wp2_with fail;go_meet)
  all_goals
   refine⟨_,rfl, ?_⟩
   first
   |exact vo.out.out pf
   |exact vo.out.put pf _ pC.out.res.lt oA.out
 case rest=>
 obtain⟨B,rfl,hM⟩:=hcut;rename World=>w1;have HM:=hid hM;clear hM e1 e4 hl0 gd pC;have q1:=HM.out.c1;have q0:=HM.out.c0;have q2:=HM.out.c2;have q3:=HM.out.c3;have m2:=HM.out.cells.c2;have m3:=HM.out.cells.c3;have m5:=HM.out.cells.c5;have zx:=HM.out.box.lt;have zr:=HM.out.res.lt;have zB:=HM.out.own.lt;have fB:=HM.out.own.frozen;have fr:=HM.out.res.frozen;obtain⟨y0,kE⟩:=HM.out.res.cell 0 (by omega);obtain⟨y1,kF⟩:=HM.out.res.cell 1 (by omega);obtain⟨y2,kx⟩:=HM.out.res.cell 2 (by omega);obtain⟨y3,kG⟩:=HM.out.res.cell 3 (by omega);have hBn:B≠w.heap.size:=by have:=HM.out.lt;omega
 have hBr:B≠w.heap.size+1:=by have:=HM.out.lt;omega
 cases hw:m.whn.toList.isEmpty
 ·have HW:=hid (HN.out.2.1 hw);obtain⟨pw,Ck⟩:∃ pw,pw=nameAt fs m.whn:=⟨_,rfl⟩
  go_wp2_with fail
  refine(HF.out m.whn _ HM.out.bel HW.out).mono ?_;rintro e w2 ⟨rfl,aA⟩;rw[← Ck];have Md:=hid Ck;have mP:=hid (HM.out.later aA);clear aA Ck q0 q1 q2 q3 m2 m3 m5 zx zr zB fB fr kE kF kx kG HM;have q1:=mP.out.c1;have q0:=mP.out.c0;have q2:=mP.out.c2;have q3:=mP.out.c3;have m2:=mP.out.cells.c2;have m3:=mP.out.cells.c3;have m5:=mP.out.cells.c5;have zx:=mP.out.box.lt;have zr:=mP.out.res.lt;have zB:=mP.out.own.lt;have fB:=mP.out.own.frozen;have fr:=mP.out.res.frozen;obtain⟨y0,kE⟩:=mP.out.res.cell 0 (by omega);obtain⟨y1,kF⟩:=mP.out.res.cell 1 (by omega);obtain⟨y2,kx⟩:=mP.out.res.cell 2 (by omega);obtain⟨y3,kG⟩:=mP.out.res.cell 3 (by omega);go_wp2_with (at_builtin;refine wpList_append_own _ rfl _ _ 236 rfl (w.heap.size+2) 240 i0 (.agg #[.int .i64 0,.bool false,.string ByteArray.empty]) 3 32 Tryz.underlying236 hi mR jr gX rfl (by decide) (.slice none 0 0) 0 (dy []) rfl ?c0a ⟨w2.heap.size,0,none⟩ 1 1 (bb ⟨pw,false,m.is_⟩) rfl ?c1a ?c2a ?c3a ?c4a ?c5a ?c6a ?_)
  case c0a=>exact World.ownsRow_nil _ _ _ _
  case c1a=>rfl
  case c2a=>
   intro j u hj;match j,hj with
   |0,hj=>simp[bb]at hj;subst hj;simp[Addr.add]
   |1,hj=>simp[bb]at hj;subst hj;simp[Addr.add]
   |2,hj=>simp[bb]at hj;subst hj;simp[Addr.add]
   |k+3,hj=>simp[bb]at hj
  case c3a=>intro u hu;simp[bb]at hu;rcases hu with rfl|rfl|rfl<;>rfl
  case c4a=>unfold maxLen;omega
  case c5a=>omega
  case c6a=>first|omega|(simp;omega)
  intro v' w3 cq ct _;obtain⟨a1,d1,Je⟩:=dS cq;have pE:v'=.slice a1 1 d1:=Je;clear Je;subst pE;have cC:Bel w2 (w2.alloc (.cells #[.int .i64 (pw:Nat),.bool false,.string m.is_] 240)):=ab br _;have nv:=hid (mP.out.add cC cq ct);have j8:=mP.out.mid cC ct;have g1:=j8.2;have gf:=j8.1.frozen;have gz:=j8.1.lt;clear j8 cq ct q0 q1 q2 q3 m2 m3 m5 zx zr zB fB fr kE kF kx kG mP cC;go_upto_region 5 with fail
  obtain⟨W3,hW3⟩:∃ W3,W3=w3.setCell ⟨B,1,none⟩ (.slice a1 1 d1):=⟨_,rfl⟩
  rw[← hW3]at nv ⊢;clear hW3 g1 gf gz;have q1:=nv.out.c1;have q0:=nv.out.c0;have q2:=nv.out.c2;have q3:=nv.out.c3;have m2:=nv.out.cells.c2;have m3:=nv.out.cells.c3;have m5:=nv.out.cells.c5;have zx:=nv.out.box.lt;have zr:=nv.out.res.lt;have zB:=nv.out.own.lt;have fB:=nv.out.own.frozen;have fr:=nv.out.res.frozen;obtain⟨y0,kE⟩:=nv.out.res.cell 0 (by omega);obtain⟨y1,kF⟩:=nv.out.res.cell 1 (by omega);obtain⟨y2,kx⟩:=nv.out.res.cell 2 (by omega);obtain⟨y3,kG⟩:=nv.out.res.cell 3 (by omega);cases hf:m.frm.toList.isEmpty
  ·have Jr:=hid (HN.out.2.2 hf);obtain⟨pr,tn⟩:∃ pr,pr=nameAt fs m.frm:=⟨_,rfl⟩
   go_wp2_with fail
   refine(HF.out m.frm _ nv.out.bel Jr.out).mono ?_;rintro e w4 ⟨rfl,cA⟩;rw[← tn];have F7:=hid tn;have j9:=hid (nv.out.later cA);have iK:=hid (j9.out.Bi pr);clear cA tn q0 q1 q2 q3 m2 m3 m5 zx zr zB fB fr kE kF kx kG nv;have q1:=j9.out.c1;have q0:=j9.out.c0;have q2:=j9.out.c2;have q3:=j9.out.c3;have m2:=j9.out.cells.c2;have m3:=j9.out.cells.c3;have m5:=j9.out.cells.c5;have zx:=j9.out.box.lt;have zr:=j9.out.res.lt;have zB:=j9.out.own.lt;have fB:=j9.out.own.frozen;have fr:=j9.out.res.frozen;obtain⟨y0,kE⟩:=j9.out.res.cell 0 (by omega);obtain⟨y1,kF⟩:=j9.out.res.cell 1 (by omega);obtain⟨y2,kx⟩:=j9.out.res.cell 2 (by omega);obtain⟨y3,kG⟩:=j9.out.res.cell 3 (by omega);go_upto_region 7 with fail
   obtain⟨W5,JF⟩:∃ W5,W5=w4.setCell ⟨B,3,none⟩ (.int .i64 (pr:Nat)):=⟨_,rfl⟩
   rw[← JF]at iK ⊢;clear JF q0 q1 q2 q3 m2 m3 m5 zx zr zB fB fr kE kF kx kG j9;have q1:=iK.out.c1;have q0:=iK.out.c0;have q2:=iK.out.c2;have q3:=iK.out.c3;have m2:=iK.out.cells.c2;have m3:=iK.out.cells.c3;have m5:=iK.out.cells.c5;have zx:=iK.out.box.lt;have zr:=iK.out.res.lt;have zB:=iK.out.own.lt;have fB:=iK.out.own.frozen;have fr:=iK.out.res.frozen;obtain⟨y0,kE⟩:=iK.out.res.cell 0 (by omega);obtain⟨y1,kF⟩:=iK.out.res.cell 1 (by omega);obtain⟨y2,kx⟩:=iK.out.res.cell 2 (by omega);obtain⟨y3,kG⟩:=iK.out.res.cell 3 (by omega);go_wp2_with (at_builtin;refine wpList_append_own _ rfl _ _ 236 rfl (w.heap.size+2) 240 i0 (.agg #[.int .i64 0,.bool false,.string ByteArray.empty]) 3 32 Tryz.underlying236 hi mR jr gX rfl (by decide) (.slice a1 1 d1) 1 (dy [⟨pw,false,m.is_⟩]) rfl ?c0b ⟨W5.heap.size,0,none⟩ 1 1 (bb ⟨pr,true,ByteArray.empty⟩) rfl ?c1b ?c2b ?c3b ?c4b ?c5b ?c6b ?_)
   case c0b=>exact bV iK.out.needs (ab br _)
   case c1b=>rfl
   case c2b=>
    intro j u hj;match j,hj with
    |0,hj=>simp[bb]at hj;subst hj;simp
    |1,hj=>simp[bb]at hj;subst hj;simp
    |2,hj=>simp[bb]at hj;subst hj;simp;rfl
    |k+3,hj=>simp[bb]at hj
   case c3b=>intro u hu;simp[bb]at hu;rcases hu with rfl|rfl|rfl<;>rfl
   case c4b=>unfold maxLen;omega
   case c6b=>first|omega|(simp;omega)
   intro v' w6 cq ct _;obtain⟨a6,d6,B5⟩:=dS cq;have MH:v'=.slice a6 2 d6:=B5;clear B5;subst MH;have cC:Bel W5 (W5.alloc (.cells #[.int .i64 (pr:Nat),.bool true,.string ⟨#[]⟩] 240)):=ab br _;have ka:=hid (iK.out.add cC cq ct);have j8:=iK.out.mid cC ct;have g1:=j8.2;have gf:=j8.1.frozen;have gz:=j8.1.lt;clear j8 cq ct q0 q1 q2 q3 m2 m3 m5 zx zr zB fB fr kE kF kx kG iK cC;go_upto_region 8 with fail
   obtain⟨W6,JQ⟩:∃ W6,W6=w6.setCell ⟨B,1,none⟩ (.slice a6 2 d6):=⟨_,rfl⟩
   rw[← JQ]at ka ⊢;clear JQ g1 gf gz;have q1:=ka.out.c1;have q0:=ka.out.c0;have q2:=ka.out.c2;have q3:=ka.out.c3;have m2:=ka.out.cells.c2;have m3:=ka.out.cells.c3;have m5:=ka.out.cells.c5;have zx:=ka.out.box.lt;have zr:=ka.out.res.lt;have zB:=ka.out.own.lt;have fB:=ka.out.own.frozen;have fr:=ka.out.res.frozen;obtain⟨y0,kE⟩:=ka.out.res.cell 0 (by omega);obtain⟨y1,kF⟩:=ka.out.res.cell 1 (by omega);obtain⟨y2,kx⟩:=ka.out.res.cell 2 (by omega);obtain⟨y3,kG⟩:=ka.out.res.cell 3 (by omega);go_wp2;obtain⟨r,t1,t2⟩:=ka.out.fin [.int .i64 (pf:Nat),.slice a6 2 d6,.string m.put,.int .i64 (pr:Nat)] rfl;have r0:((((W6.setCell ⟨w.heap.size+1,0,none⟩ (.int .i64 (pf:Nat))).setCell ⟨w.heap.size+1,1,none⟩ (.slice a6 2 d6)).setCell ⟨w.heap.size+1,2,none⟩ (.string m.put)).setCell ⟨w.heap.size+1,3,none⟩ (.int .i64 (pr:Nat))).cell? ⟨w.heap.size+1,0,none⟩=some (.int .i64 (pf:Nat)):=r 0 (by omega);have r1:((((W6.setCell ⟨w.heap.size+1,0,none⟩ (.int .i64 (pf:Nat))).setCell ⟨w.heap.size+1,1,none⟩ (.slice a6 2 d6)).setCell ⟨w.heap.size+1,2,none⟩ (.string m.put)).setCell ⟨w.heap.size+1,3,none⟩ (.int .i64 (pr:Nat))).cell? ⟨w.heap.size+1,1,none⟩=some (.slice a6 2 d6):=r 1 (by omega);have r2:((((W6.setCell ⟨w.heap.size+1,0,none⟩ (.int .i64 (pf:Nat))).setCell ⟨w.heap.size+1,1,none⟩ (.slice a6 2 d6)).setCell ⟨w.heap.size+1,2,none⟩ (.string m.put)).setCell ⟨w.heap.size+1,3,none⟩ (.int .i64 (pr:Nat))).cell? ⟨w.heap.size+1,2,none⟩=some (.string m.put):=r 2 (by omega);have r3:((((W6.setCell ⟨w.heap.size+1,0,none⟩ (.int .i64 (pf:Nat))).setCell ⟨w.heap.size+1,1,none⟩ (.slice a6 2 d6)).setCell ⟨w.heap.size+1,2,none⟩ (.string m.put)).setCell ⟨w.heap.size+1,3,none⟩ (.int .i64 (pr:Nat))).cell? ⟨w.heap.size+1,3,none⟩=some (.int .i64 (pr:Nat)):=r 3 (by omega)
   (try simp at r0 r1 r2 r3)
   refine bodyPost_ret (v:=.agg #[.int .i64 (pf:Nat),.slice a6 2 d6,.string m.put,.int .i64 (pr:Nat)]) (by simp only[results,Tryz.results176];simp[go_sem,r0,r1,r2,r3]) rfl ⟨⟨a6,2,d6, ?_, ?_⟩,t2⟩
   ·simp only[ec];rw[← I0.out];simp[Pl.aE,hf,F7.out]
   ·have e:dX fs m=[⟨pw,false,m.is_⟩]++[⟨pr,true,ByteArray.empty⟩]:=by simp[dX,Pl.aE,hw,hf,Md.out,F7.out]
    rw[e];exact t1
  ·obtain⟨pr,tn⟩:∃ pr:Nat,pr=0:=⟨_,rfl⟩
   have F7:=hid tn;clear tn;go_wp2;obtain⟨r,t1,t2⟩:=nv.out.fin [.int .i64 (pf:Nat),.slice a1 1 d1,.string m.put,.int .i64 (0:Nat)] rfl;have r0:((((W3.setCell ⟨w.heap.size+1,0,none⟩ (.int .i64 (pf:Nat))).setCell ⟨w.heap.size+1,1,none⟩ (.slice a1 1 d1)).setCell ⟨w.heap.size+1,2,none⟩ (.string m.put)).setCell ⟨w.heap.size+1,3,none⟩ (.int .i64 (0:Nat))).cell? ⟨w.heap.size+1,0,none⟩=some (.int .i64 (pf:Nat)):=r 0 (by omega);have r1:((((W3.setCell ⟨w.heap.size+1,0,none⟩ (.int .i64 (pf:Nat))).setCell ⟨w.heap.size+1,1,none⟩ (.slice a1 1 d1)).setCell ⟨w.heap.size+1,2,none⟩ (.string m.put)).setCell ⟨w.heap.size+1,3,none⟩ (.int .i64 (0:Nat))).cell? ⟨w.heap.size+1,1,none⟩=some (.slice a1 1 d1):=r 1 (by omega);have r2:((((W3.setCell ⟨w.heap.size+1,0,none⟩ (.int .i64 (pf:Nat))).setCell ⟨w.heap.size+1,1,none⟩ (.slice a1 1 d1)).setCell ⟨w.heap.size+1,2,none⟩ (.string m.put)).setCell ⟨w.heap.size+1,3,none⟩ (.int .i64 (0:Nat))).cell? ⟨w.heap.size+1,2,none⟩=some (.string m.put):=r 2 (by omega);have r3:((((W3.setCell ⟨w.heap.size+1,0,none⟩ (.int .i64 (pf:Nat))).setCell ⟨w.heap.size+1,1,none⟩ (.slice a1 1 d1)).setCell ⟨w.heap.size+1,2,none⟩ (.string m.put)).setCell ⟨w.heap.size+1,3,none⟩ (.int .i64 (0:Nat))).cell? ⟨w.heap.size+1,3,none⟩=some (.int .i64 (0:Nat)):=r 3 (by omega)
   (try simp at r0 r1 r2 r3)
   refine bodyPost_ret (v:=.agg #[.int .i64 (pf:Nat),.slice a1 1 d1,.string m.put,.int .i64 (0:Nat)]) (by simp only[results,Tryz.results176];simp[go_sem,r0,r1,r2,r3]) rfl ⟨⟨a1,1,d1, ?_, ?_⟩,t2⟩
   ·simp only[ec];rw[← I0.out];simp[Pl.aE,hf]
   ·have e:dX fs m=[⟨pw,false,m.is_⟩]:=by simp[dX,Pl.aE,hw,hf,Md.out]
    rw[e];exact t1
 ·obtain⟨pw,Ck⟩:∃ pw:Nat,pw=0:=⟨_,rfl⟩
  have Md:=hid Ck;clear Ck;go_upto_region 5 with fail
  cases hf:m.frm.toList.isEmpty
  ·have Jr:=hid (HN.out.2.2 hf);obtain⟨pr,tn⟩:∃ pr,pr=nameAt fs m.frm:=⟨_,rfl⟩
   go_wp2_with fail
   refine(HF.out m.frm _ HM.out.bel Jr.out).mono ?_;rintro e w4 ⟨rfl,cA⟩;rw[← tn];have F7:=hid tn;have j9:=hid (HM.out.later cA);have iK:=hid (j9.out.Bi pr);clear cA tn q0 q1 q2 q3 m2 m3 m5 zx zr zB fB fr kE kF kx kG HM;have q1:=j9.out.c1;have q0:=j9.out.c0;have q2:=j9.out.c2;have q3:=j9.out.c3;have m2:=j9.out.cells.c2;have m3:=j9.out.cells.c3;have m5:=j9.out.cells.c5;have zx:=j9.out.box.lt;have zr:=j9.out.res.lt;have zB:=j9.out.own.lt;have fB:=j9.out.own.frozen;have fr:=j9.out.res.frozen;obtain⟨y0,kE⟩:=j9.out.res.cell 0 (by omega);obtain⟨y1,kF⟩:=j9.out.res.cell 1 (by omega);obtain⟨y2,kx⟩:=j9.out.res.cell 2 (by omega);obtain⟨y3,kG⟩:=j9.out.res.cell 3 (by omega);go_upto_region 7 with fail
   obtain⟨W5,JF⟩:∃ W5,W5=w4.setCell ⟨B,3,none⟩ (.int .i64 (pr:Nat)):=⟨_,rfl⟩
   rw[← JF]at iK ⊢;clear JF q0 q1 q2 q3 m2 m3 m5 zx zr zB fB fr kE kF kx kG j9;have q1:=iK.out.c1;have q0:=iK.out.c0;have q2:=iK.out.c2;have q3:=iK.out.c3;have m2:=iK.out.cells.c2;have m3:=iK.out.cells.c3;have m5:=iK.out.cells.c5;have zx:=iK.out.box.lt;have zr:=iK.out.res.lt;have zB:=iK.out.own.lt;have fB:=iK.out.own.frozen;have fr:=iK.out.res.frozen;obtain⟨y0,kE⟩:=iK.out.res.cell 0 (by omega);obtain⟨y1,kF⟩:=iK.out.res.cell 1 (by omega);obtain⟨y2,kx⟩:=iK.out.res.cell 2 (by omega);obtain⟨y3,kG⟩:=iK.out.res.cell 3 (by omega);go_wp2_with (at_builtin;refine wpList_append_own _ rfl _ _ 236 rfl (w.heap.size+2) 240 i0 (.agg #[.int .i64 0,.bool false,.string ByteArray.empty]) 3 32 Tryz.underlying236 hi mR jr gX rfl (by decide) (.slice none 0 0) 0 (dy []) rfl ?c0d ⟨W5.heap.size,0,none⟩ 1 1 (bb ⟨pr,true,ByteArray.empty⟩) rfl ?c1d ?c2d ?c3d ?c4d ?c5d ?c6d ?_)
   case c0d=>exact bV iK.out.needs (ab br _)
   case c1d=>rfl
   case c2d=>
    intro j u hj;match j,hj with
    |0,hj=>simp[bb]at hj;subst hj;simp
    |1,hj=>simp[bb]at hj;subst hj;simp
    |2,hj=>simp[bb]at hj;subst hj;simp;rfl
    |k+3,hj=>simp[bb]at hj
   case c3d=>intro u hu;simp[bb]at hu;rcases hu with rfl|rfl|rfl<;>rfl
   case c4d=>unfold maxLen;omega
   case c6d=>first|omega|(simp;omega)
   intro v' w6 cq ct _;obtain⟨a6,d6,B5⟩:=dS cq;have MH:v'=.slice a6 1 d6:=B5;clear B5;subst MH;have cC:Bel W5 (W5.alloc (.cells #[.int .i64 (pr:Nat),.bool true,.string ⟨#[]⟩] 240)):=ab br _;have ka:=hid (iK.out.add cC cq ct);have j8:=iK.out.mid cC ct;have g1:=j8.2;have gf:=j8.1.frozen;have gz:=j8.1.lt;clear j8 cq ct q0 q1 q2 q3 m2 m3 m5 zx zr zB fB fr kE kF kx kG iK cC;go_upto_region 8 with fail
   obtain⟨W6,JQ⟩:∃ W6,W6=w6.setCell ⟨B,1,none⟩ (.slice a6 1 d6):=⟨_,rfl⟩
   rw[← JQ]at ka ⊢;clear JQ g1 gf gz;have q1:=ka.out.c1;have q0:=ka.out.c0;have q2:=ka.out.c2;have q3:=ka.out.c3;have m2:=ka.out.cells.c2;have m3:=ka.out.cells.c3;have m5:=ka.out.cells.c5;have zx:=ka.out.box.lt;have zr:=ka.out.res.lt;have zB:=ka.out.own.lt;have fB:=ka.out.own.frozen;have fr:=ka.out.res.frozen;obtain⟨y0,kE⟩:=ka.out.res.cell 0 (by omega);obtain⟨y1,kF⟩:=ka.out.res.cell 1 (by omega);obtain⟨y2,kx⟩:=ka.out.res.cell 2 (by omega);obtain⟨y3,kG⟩:=ka.out.res.cell 3 (by omega);go_wp2;obtain⟨r,t1,t2⟩:=ka.out.fin [.int .i64 (pf:Nat),.slice a6 1 d6,.string m.put,.int .i64 (pr:Nat)] rfl;have r0:((((W6.setCell ⟨w.heap.size+1,0,none⟩ (.int .i64 (pf:Nat))).setCell ⟨w.heap.size+1,1,none⟩ (.slice a6 1 d6)).setCell ⟨w.heap.size+1,2,none⟩ (.string m.put)).setCell ⟨w.heap.size+1,3,none⟩ (.int .i64 (pr:Nat))).cell? ⟨w.heap.size+1,0,none⟩=some (.int .i64 (pf:Nat)):=r 0 (by omega);have r1:((((W6.setCell ⟨w.heap.size+1,0,none⟩ (.int .i64 (pf:Nat))).setCell ⟨w.heap.size+1,1,none⟩ (.slice a6 1 d6)).setCell ⟨w.heap.size+1,2,none⟩ (.string m.put)).setCell ⟨w.heap.size+1,3,none⟩ (.int .i64 (pr:Nat))).cell? ⟨w.heap.size+1,1,none⟩=some (.slice a6 1 d6):=r 1 (by omega);have r2:((((W6.setCell ⟨w.heap.size+1,0,none⟩ (.int .i64 (pf:Nat))).setCell ⟨w.heap.size+1,1,none⟩ (.slice a6 1 d6)).setCell ⟨w.heap.size+1,2,none⟩ (.string m.put)).setCell ⟨w.heap.size+1,3,none⟩ (.int .i64 (pr:Nat))).cell? ⟨w.heap.size+1,2,none⟩=some (.string m.put):=r 2 (by omega);have r3:((((W6.setCell ⟨w.heap.size+1,0,none⟩ (.int .i64 (pf:Nat))).setCell ⟨w.heap.size+1,1,none⟩ (.slice a6 1 d6)).setCell ⟨w.heap.size+1,2,none⟩ (.string m.put)).setCell ⟨w.heap.size+1,3,none⟩ (.int .i64 (pr:Nat))).cell? ⟨w.heap.size+1,3,none⟩=some (.int .i64 (pr:Nat)):=r 3 (by omega)
   (try simp at r0 r1 r2 r3)
   refine bodyPost_ret (v:=.agg #[.int .i64 (pf:Nat),.slice a6 1 d6,.string m.put,.int .i64 (pr:Nat)]) (by simp only[results,Tryz.results176];simp[go_sem,r0,r1,r2,r3]) rfl ⟨⟨a6,1,d6, ?_, ?_⟩,t2⟩
   ·simp only[ec];rw[← I0.out];simp[Pl.aE,hf,F7.out]
   ·have e:dX fs m=[]++[⟨pr,true,ByteArray.empty⟩]:=by simp[dX,Pl.aE,hw,hf,F7.out]
    rw[e];exact t1
  ·obtain⟨pr,tn⟩:∃ pr:Nat,pr=0:=⟨_,rfl⟩
   have F7:=hid tn;clear tn;go_wp2;obtain⟨r,t1,t2⟩:=HM.out.fin [.int .i64 (pf:Nat),.slice none 0 0,.string m.put,.int .i64 (0:Nat)] rfl;have r0:((((w1.setCell ⟨w.heap.size+1,0,none⟩ (.int .i64 (pf:Nat))).setCell ⟨w.heap.size+1,1,none⟩ (.slice none 0 0)).setCell ⟨w.heap.size+1,2,none⟩ (.string m.put)).setCell ⟨w.heap.size+1,3,none⟩ (.int .i64 (0:Nat))).cell? ⟨w.heap.size+1,0,none⟩=some (.int .i64 (pf:Nat)):=r 0 (by omega);have r1:((((w1.setCell ⟨w.heap.size+1,0,none⟩ (.int .i64 (pf:Nat))).setCell ⟨w.heap.size+1,1,none⟩ (.slice none 0 0)).setCell ⟨w.heap.size+1,2,none⟩ (.string m.put)).setCell ⟨w.heap.size+1,3,none⟩ (.int .i64 (0:Nat))).cell? ⟨w.heap.size+1,1,none⟩=some (.slice none 0 0):=r 1 (by omega);have r2:((((w1.setCell ⟨w.heap.size+1,0,none⟩ (.int .i64 (pf:Nat))).setCell ⟨w.heap.size+1,1,none⟩ (.slice none 0 0)).setCell ⟨w.heap.size+1,2,none⟩ (.string m.put)).setCell ⟨w.heap.size+1,3,none⟩ (.int .i64 (0:Nat))).cell? ⟨w.heap.size+1,2,none⟩=some (.string m.put):=r 2 (by omega);have r3:((((w1.setCell ⟨w.heap.size+1,0,none⟩ (.int .i64 (pf:Nat))).setCell ⟨w.heap.size+1,1,none⟩ (.slice none 0 0)).setCell ⟨w.heap.size+1,2,none⟩ (.string m.put)).setCell ⟨w.heap.size+1,3,none⟩ (.int .i64 (0:Nat))).cell? ⟨w.heap.size+1,3,none⟩=some (.int .i64 (0:Nat)):=r 3 (by omega)
   (try simp at r0 r1 r2 r3)
   refine bodyPost_ret (v:=.agg #[.int .i64 (pf:Nat),.slice none 0 0,.string m.put,.int .i64 (0:Nat)]) (by simp only[results,Tryz.results176];simp[go_sem,r0,r1,r2,r3]) rfl ⟨⟨none,0,0, ?_, ?_⟩,t2⟩
   ·simp only[ec];rw[← I0.out];simp[Pl.aE,hf]
   ·have e:dX fs m=[]:=by simp[dX,Pl.aE,hw,hf]
    rw[e];exact t1
end Go.Proofs.YtbiokpmdghmgcaaGreat
