import Derived.BigQuiet
import Derived.Deep.RegionWith
import Derived.Deep.DeepCutAuto
import Derived.Test.YtbiokpmdghmgcaaGreatWalkAK
import Derived.Test.YtbiokpmdghmgcaaGreatMemR
import Derived.Test.YtbiokpmdghmgcaaGreatMemL
namespace Go.Proofs.YtbiokpmdghmgcaaGreat
open Go.RowKit Go.Deep
structure bd (W:World) (p:Nat) (v0 v1 v2 v3 v4 v5 v6:Value):Prop where
 lt:p<W.heap.size
 x0:W.cell? ⟨p,0,none⟩=some v0
 x1:W.cell? ⟨p,1,none⟩=some v1
 x2:W.cell? ⟨p,2,none⟩=some v2
 x3:W.cell? ⟨p,3,none⟩=some v3
 x4:W.cell? ⟨p,4,none⟩=some v4
 x5:W.cell? ⟨p,5,none⟩=some v5
 x6:W.cell? ⟨p,6,none⟩=some v6
theorem bd.later {W W':World} {p:Nat} {v0 v1 v2 v3 v4 v5 v6:Value} (h:bd W p v0 v1 v2 v3 v4 v5 v6) (hb:Bel W W'):bd W' p v0 v1 v2 v3 v4 v5 v6:=by
 have c:∀ j,W'.cell? ⟨p,j,none⟩=W.cell? ⟨p,j,none⟩:=fun j=>hb.cell (p:=⟨p,j,none⟩) h.lt;exact⟨lo h.lt hb.size,(c 0).trans h.x0,(c 1).trans h.x1,(c 2).trans h.x2,(c 3).trans h.x3,(c 4).trans h.x4,(c 5).trans h.x5,(c 6).trans h.x6⟩
theorem bd.bp (W:World) (p:Nat) (v0 v1 v2 v3 v4 v5 v6:Value) (t:TypeId) (hp:p=W.heap.size):bd (W.alloc (.cells #[v0,v1,v2,v3,v4,v5,v6] t)) p v0 v1 v2 v3 v4 v5 v6:=by
 subst hp;exact⟨by simp,by simp,by simp,by simp,by simp,by simp,by simp,by simp⟩
theorem bd.cy {W:World} {p:Nat} {v0 v1 v2 v3 v4 v5 v6:Value} (h:bd W p v0 v1 v2 v3 v4 v5 v6) (o:Obj):bd (W.alloc o) p v0 v1 v2 v3 v4 v5 v6:=h.later (ab br o)
structure yo (w:World) (v1 v2:Value) (o:Ob):Prop where
 t1:bU w v1 o.values
 t2:bU w v2 o.holds
 sized:o.sized
structure kV (w:World) (b1 b2:Nat) (o:Ob):Prop where
 arg:i7 w b1 b2 o
 z1:∀ i,i<o.values.length→(o.values.getD i ByteArray.empty).size≤maxLen
 z2:∀ i,i<o.holds.length→(o.holds.getD i ByteArray.empty).size≤maxLen
 sized:o.sized
theorem yo.later {w w':World} {v1 v2:Value} {o:Ob} (h:yo w v1 v2 o) (hb:Bel w w'):yo w' v1 v2 o:=⟨h.t1.later hb,h.t2.later hb,h.sized⟩
theorem kV.later {w w':World} {b1 b2:Nat} {o:Ob} (h:kV w b1 b2 o) (hb:Bel w w'):kV w' b1 b2 o:=⟨h.arg.later hb,h.z1,h.z2,h.sized⟩
theorem kV.zZ {w:World} {b1 b2:Nat} {o:Ob} (h:kV w b1 b2 o):bU w (.slice (some ⟨b1,0,none⟩) o.values.length o.values.length) o.values:=
 Or.inr ⟨b1,0,_,rfl,h.arg.lt1,h.z1,by have:=h.arg.len1;unfold maxLen;omega,fun i hi=>by rw[Nat.zero_add];exact h.arg.at1 i hi⟩
theorem kV.As {w:World} {b1 b2:Nat} {o:Ob} (h:kV w b1 b2 o):bU w (.slice (some ⟨b2,0,none⟩) o.holds.length o.holds.length) o.holds:=
 Or.inr ⟨b2,0,_,rfl,h.arg.lt2,h.z2,by have:=h.arg.len2;unfold maxLen;omega,fun i hi=>by rw[Nat.zero_add];exact h.arg.at2 i hi⟩
theorem IX (o:Ob) (v1 v2:Value) (left:Int) (w:World) (h0:0≤left) (h1:left≤1048576) (h:yo w v1 v2 o):
  Calls Tryz.prog 55 #[.agg #[.string o.kind,.string o.name,.string o.team,v1,.bool o.ending,v2,.int .i64 o.version],.int .i64 left] w fun e w'=>(∃ r:Int,e=.returned (.int .i64 r)∧szP (o.values.length≤1048576∧o.holds.length≤1048576) left r)∧Bel w w':=
 IJ o v1 v2 left w h0 h1 h.t1 h.t2 h.sized
theorem Ir (o:Ob) (b1 b2 q1 q2:Nat) (w:World) (h:kV w b1 b2 o) (h':kV w q1 q2 o):
  Calls Tryz.prog 101 #[.agg #[.string o.kind,.string o.name,.string o.team,.slice (some ⟨b1,0,none⟩) o.values.length o.values.length,.bool o.ending,.slice (some ⟨b2,0,none⟩) o.holds.length o.holds.length,.int .i64 o.version],.agg #[.string o.kind,.string o.name,.string o.team,.slice (some ⟨q1,0,none⟩) o.values.length o.values.length,.bool o.ending,.slice (some ⟨q2,0,none⟩) o.holds.length o.holds.length,.int .i64 o.version]] w fun e w'=>e=.returned (.bool true)∧Bel w w':=
 Iz o _ _ _ _ w h.zZ h.As h'.zZ h'.As
set_option maxHeartbeats 40000000
theorem Tryz.Fz:(Tryz.prog.info? 3).map (fun i=>(i.zero,i.size,i.bytes))=some (some (.int .i64 0),1,8):=by kernel_rfl
theorem Tryz.pN:Tryz.prog.underlying 98=some (.slice 3):=by kernel_rfl
theorem oI (n:Nat) (h:n≤1048576) (W:World):
  (Instr.makeSlice 98 (.int .i64 (n:Int)) (.int .i64 (n:Int))).run Tryz.prog W=.ok (.slice (some ⟨W.heap.size,0,none⟩) n n) (W.alloc (.cells (madeCells #[.int .i64 0] n) 3)):=
 run_make_row' 98 3 (.int .i64 0) 8 Tryz.pN Tryz.Fz rfl .i64 .i64 n (by omega) (by omega) W
theorem xO (cs:Array Value) (l:List Int) (k:Nat) (s:Int) (hk:k<l.length) (hs:l.getD k 0=s) (eU:cs.size=l.length)
  (h:∀ j,j<k→cs[j]? =some (.int .i64 (l.getD j 0))):
  (cs.setIfInBounds k (.int .i64 s)).size=l.length∧∀ j,j<k+1→(cs.setIfInBounds k (.int .i64 s))[j]? =some (.int .i64 (l.getD j 0)):=by
 refine⟨by simpa using eU,fun j hj=> ?_⟩;rw[Array.getElem?_setIfInBounds];by_cases e:k=j
 ·subst e;rw[if_pos rfl,if_pos (by omega),hs]
 ·rw[if_neg e];exact h j (by omega)
theorem uy (b off cap:Nat) (l:List Int) (w:World) (hb:b<w.heap.size) (hl:l.length≤1048576)
  (hc:∀ i,i<l.length→w.cell? ⟨b,off+i,none⟩=some (.int .i64 (l.getD i 0))):
  Calls Tryz.prog 170 #[.slice (some ⟨b,off,none⟩) l.length cap] w fun e w'=>∃ cs:Array Value,e=.returned (.slice (some ⟨w.heap.size,0,none⟩) l.length l.length)∧w'=w.alloc (.cells cs 3)∧cs.size=l.length∧
   ∀ j,j<l.length→cs[j]? =some (.int .i64 (l.getD j 0)):=by
 have iL:=oI l.length hl;have HC:Hid (∀ o i,i<l.length→(w.alloc o).cell? ⟨b,off+i,none⟩=some (.int .i64 (l.getD i 0))):=by
  intro o i hi;rw[← hc i hi];exact(ab br o:Bel w _).cell (p:=⟨b,off+i,none⟩) hb
 clear hc;go_enter Tryz.func170,Tryz.ntmps170
 go_wp2;go_loopw [4] (fun i wr=>∃ (k:Nat) (cs:Array Value),k≤l.length∧i=.int .i64 k∧wr=w.alloc (.cells cs 3)∧cs.size=l.length∧∀ j,j<k→cs[j]? =some (.int .i64 (l.getD j 0))) (fun i _=>l.length - (intOf i).toNat)
 case atStart=>exact⟨0,_,nz,rfl,rfl,size_madeCells _ _,fun j hj=>absurd hj (Nat.not_lt_zero j)⟩
 case round=>
  obtain⟨k,cs,hk,rfl,rfl,eU,aw⟩:=hrel;have HA:=hid (And.intro eU aw);clear aw eU;by_cases av:k<l.length
  ·have xi:=HC.out (.cells cs 3) k av;have hold:∃ v,cs[k]? =some v:=⟨_,Array.getElem?_eq_getElem (by rw[HA.out.1];exact av)⟩
   obtain⟨v,hv⟩:=hold;obtain⟨y,hy⟩:∃ y,y=l.getD k 0:=⟨_,rfl⟩
   rw[← hy]at xi;have HP:Hid ((cs.setIfInBounds k (.int .i64 y)).size=l.length∧∀ j,j<k+1→(cs.setIfInBounds k (.int .i64 y))[j]? =some (.int .i64 (l.getD j 0))):=
    xO cs l k y av hy.symm HA.out.1 HA.out.2
   clear hy;go_wp2;go_roundw
   case rel=>exact⟨k+1,_,by omega,by go_num,rfl,HP.out.1,HP.out.2⟩
   case measure=>simp[intOf];omega
  ·obtain rfl:k=l.length:=by omega
   go_wp2;go_ret;exact⟨cs,rfl,rfl,HA.out.1,HA.out.2⟩
theorem ur (a:Option Addr) (cap:Nat) (w:World):
  Calls Tryz.prog 170 #[.slice a 0 cap] w fun e w'=>e=.returned (.slice (some ⟨w.heap.size,0,none⟩) 0 0)∧w'=w.alloc (.cells #[] 3):=by
 have iL:∀ W:World,(Instr.makeSlice 98 (.int .i64 0) (.int .i64 0)).run Tryz.prog W=.ok (.slice (some ⟨W.heap.size,0,none⟩) 0 0) (W.alloc (.cells #[] 3)):=by
  intro W;have h:=oI 0 (by omega) W;have h0:madeCells #[.int .i64 0] 0=#[]:=by simp[madeCells]
  rw[h0]at h;exact h
 go_enter Tryz.func170,Tryz.ntmps170
 go_wp2;refine wp_loop_rounds 1 ?_;rw[rounds_succ];go_wp2;go_ret;exact⟨rfl,rfl⟩
theorem FB (v:Value) (l:List Int) (w:World) (hl:l.length≤1048576) (h:iv w v l):
  Calls Tryz.prog 170 #[v] w fun e w'=>e=.returned (.slice (some ⟨w.heap.size,0,none⟩) l.length l.length)∧∃ cs:Array Value,w'=w.alloc (.cells cs 3)∧cs.size=l.length∧∀ j,j<l.length→cs[j]? =some (.int .i64 (l.getD j 0)):=by
 rcases h with⟨a,cap,rfl,rfl⟩|⟨b,off,cap,rfl,hb,_,hc⟩
 ·refine(ur a cap w).mono ?_;rintro e w' ⟨rfl,rfl⟩;exact⟨rfl,_,rfl,rfl,fun j hj=>absurd hj (Nat.not_lt_zero j)⟩
 ·refine(uy b off cap l w hb hl hc).mono ?_;rintro e w' ⟨cs,rfl,rfl,h1,h2⟩;exact⟨rfl,cs,rfl,h1,h2⟩
theorem AB (w:World) (l:List Int) (cs:Array Value) (hl:l.length≤1048576) (h:∀ j,j<l.length→cs[j]? =some (.int .i64 (l.getD j 0))):cn (w.alloc (.cells cs 3)) w.heap.size l:=
 ⟨by simp,hl,fun i hi=>by have:=h i hi;simp[this]⟩
theorem Fj (a:Option Addr) (n cap:Nat) (left:Int) (w:World) (h0:0≤left) (h1:left≤1048576) (hn:n≤maxLen):
  Calls Tryz.prog 160 #[.slice a n cap,.int .i64 left] w fun e w'=>(∃ r:Int,e=.returned (.int .i64 r)∧szP ((n:Int)≤left) left r)∧w=w':=by
 unfold maxLen at hn;by_cases c:left<(n:Int)
 all_goals
  go_enter Tryz.func160,Tryz.ntmps160
  go_wp2;go_ret;exact⟨⟨_,rfl,by unfold szP;exact⟨by omega,by omega,fun _=>by first|trivial|omega⟩⟩,rfl⟩
theorem E9 (a:Option Addr) (cap:Nat) (r:Rul) (left:Int) (w:World) (h0:0≤left) (h1:left≤1048576) (hn:r.verbs.length≤maxLen) (hs:r.sized):
  Calls Tryz.prog 114 #[.agg #[.slice a r.verbs.length cap,.string r.kind,.string r.team,.string r.pre],.int .i64 left] w fun e w'=>(∃ x:Int,e=.returned (.int .i64 x)∧szP ((r.verbs.length:Int)≤left) left x)∧Bel w w':=by
 obtain⟨s0,s1,s2⟩:=hs;unfold maxLen at s0 s1 s2;have cC:Bel w (w.alloc (.cells #[.slice a r.verbs.length cap,.string r.kind,.string r.team,.string r.pre] 100)):=ab br _;have HX:Hid (∀ W,Calls Tryz.prog 160 #[.slice a r.verbs.length cap,.int .i64 left] W fun e w'=>(∃ x:Int,e=.returned (.int .i64 x)∧szP ((r.verbs.length:Int)≤left) left x)∧W=w'):=fun W=>Fj a _ cap left W h0 h1 hn;clear hn;go_enter Tryz.func114,Tryz.ntmps114
 go_wp2_with fail
 refine(HX.out _).mono ?_;rintro e w2 ⟨⟨x,rfl,hx⟩,rfl⟩;have HS:=hid hx;have hx1:=hx.1;have KS:=hx.2.1;clear hx HX;by_cases c0:x<0
 ·go_wp2;go_ret;exact⟨⟨_,rfl,by have:=HS.out;unfold szP at this ⊢;exact⟨by omega,by omega,fun _=>by first|trivial|omega⟩⟩,cC⟩
 by_cases c1:x<(r.kind.size:Int)
 ·go_wp2;go_ret;exact⟨⟨_,rfl,by have:=HS.out;unfold szP at this ⊢;exact⟨by omega,by omega,fun _=>by first|trivial|omega⟩⟩,cC⟩
 by_cases c2:x - r.kind.size<(r.team.size:Int)
 ·go_wp2;go_ret;exact⟨⟨_,rfl,by have:=HS.out;unfold szP at this ⊢;exact⟨by omega,by omega,fun _=>by first|trivial|omega⟩⟩,cC⟩
 by_cases c3:x - r.kind.size - r.team.size<(r.pre.size:Int)
 all_goals
  go_wp2;go_ret;exact⟨⟨_,rfl,by have:=HS.out;unfold szP at this ⊢;exact⟨by omega,by omega,fun _=>by first|trivial|omega⟩⟩,cC⟩
theorem E0 (d:g7) (left:Int) (w:World) (h0:0≤left) (h1:left≤1048576) (hs:d.sized):
  Calls Tryz.prog 13 #[.agg #[.int .i64 d.verb,.string d.kind,.string d.team,.string d.name],.int .i64 left] w fun e w'=>(∃ x:Int,e=.returned (.int .i64 x)∧ -1≤x∧x≤left)∧Bel w w':=by
 obtain⟨s0,s1,s2⟩:=hs;unfold maxLen at s0 s1 s2;by_cases c1:left<(d.kind.size:Int)
 ·go_enter Tryz.func13,Tryz.ntmps13
  go_wp2;go_ret;exact⟨⟨_,rfl,by omega,by omega⟩,ab br _⟩
 by_cases c2:left - d.kind.size<(d.team.size:Int)
 ·go_enter Tryz.func13,Tryz.ntmps13
  go_wp2;go_ret;exact⟨⟨_,rfl,by omega,by omega⟩,ab br _⟩
 by_cases c3:left - d.kind.size - d.team.size<(d.name.size:Int)
 all_goals
  go_enter Tryz.func13,Tryz.ntmps13
  go_wp2;go_ret;exact⟨⟨_,rfl,by omega,by omega⟩,ab br _⟩
theorem Fg (d:g7) (w:World):
  Calls Tryz.prog 15 #[.agg #[.int .i64 d.verb,.string d.kind,.string d.team,.string d.name]] w fun e w'=>e=.returned (.agg #[.int .i64 d.verb,.string d.kind,.string d.team,.string d.name])∧Bel w w':=by
 go_enter Tryz.func15,Tryz.ntmps15
 go_wp2;refine bodyPost_ret (v:=.agg #[.int .i64 d.verb,.string d.kind,.string d.team,.string d.name]) (by simp[results,Tryz.results15,go_sem]) rfl ⟨rfl, ?_⟩;repeat(first|exact br|refine ab ?_ _|refine Below.setCell ?_ (by simp) _)
theorem Fe (a:Option Addr) (cap:Nat) (r:Rul) (w:World) (hl:r.verbs.length≤1048576) (h:iv w (.slice a r.verbs.length cap) r.verbs):
  Calls Tryz.prog 130 #[.agg #[.slice a r.verbs.length cap,.string r.kind,.string r.team,.string r.pre]] w fun e w'=>(∃ b,e=.returned (.agg #[.slice (some ⟨b,0,none⟩) r.verbs.length r.verbs.length,.string r.kind,.string r.team,.string r.pre])∧w.heap.size≤b∧ai w' b 3 r.verbs.length∧cn w' b r.verbs)∧Bel w w':=by
 have HX:Hid (∀ W,Bel w W→Calls Tryz.prog 170 #[.slice a r.verbs.length cap] W fun e w'=>e=.returned (.slice (some ⟨W.heap.size,0,none⟩) r.verbs.length r.verbs.length)∧∃ cs:Array Value,w'=W.alloc (.cells cs 3)∧cs.size=r.verbs.length∧∀ j,j<r.verbs.length→cs[j]? =some (.int .i64 (r.verbs.getD j 0))):=
  fun W hW=>FB _ r.verbs W hl (h.later hW)
 clear h;go_enter Tryz.func130,Tryz.ntmps130
 go_wp2_with fail
 refine(HX.out _ ?_).mono ?_
 ·repeat(first|exact br|refine ab ?_ _)
 rintro e w2 ⟨rfl,cs,rfl,eU,bP⟩;have HC:=hid (And.intro eU bP);clear eU bP HX;go_wp2;refine bodyPost_ret (v:=.agg #[.slice (some ⟨w.heap.size+1+1+1,0,none⟩) r.verbs.length r.verbs.length,.string r.kind,.string r.team,.string r.pre]) (by simp[results,Tryz.results130,go_sem]) rfl ?_;refine⟨⟨_,rfl,by omega, ?_, ?_⟩, ?_⟩
 ·have q:=ai.alloc (((w.alloc (.cells #[.slice a r.verbs.length cap,.string r.kind,.string r.team,.string r.pre] 100)).alloc (.cells #[.slice (some ⟨w.heap.size+1+1+1,0,none⟩) r.verbs.length r.verbs.length,.string r.kind,.string r.team,.string r.pre] 124)).alloc (.cells #[.slice (some ⟨w.heap.size+1+1+1,0,none⟩) r.verbs.length r.verbs.length,.string r.kind,.string r.team,.string r.pre] 124)) cs 3 _ HC.out.1;simpa using q
 ·have q:=AB (((w.alloc (.cells #[.slice a r.verbs.length cap,.string r.kind,.string r.team,.string r.pre] 100)).alloc (.cells #[.slice (some ⟨w.heap.size+1+1+1,0,none⟩) r.verbs.length r.verbs.length,.string r.kind,.string r.team,.string r.pre] 124)).alloc (.cells #[.slice (some ⟨w.heap.size+1+1+1,0,none⟩) r.verbs.length r.verbs.length,.string r.kind,.string r.team,.string r.pre] 124)) r.verbs cs hl HC.out.2;simpa using q
 ·repeat(first|exact br|refine ab ?_ _|refine Below.setCell ?_ (by simp) _)
theorem Fl (b b':Nat) (l:List Int) (w:World) (h:cn w b l) (h':cn w b' l):
  Calls Tryz.prog 192 #[.slice (some ⟨b,0,none⟩) l.length l.length,.slice (some ⟨b',0,none⟩) l.length l.length] w fun e w'=>e=.returned (.bool true)∧Bel w w':=by
 have hl:=h.len;have hc:=h.at_;have EC:=h'.at_;clear h h';go_enter Tryz.func192,Tryz.ntmps192
 go_wp2;go_loopw [5] (fun i wr=>∃ k:Nat,k≤l.length∧i=.int .i64 k∧∃ n,wr=w.drewN n) (fun i _=>l.length - (intOf i).toNat)
 case atStart=>exact⟨0,nz,rfl,0,rfl⟩
 case round=>
  obtain⟨k,hk,rfl,n,rfl⟩:=hrel;by_cases av:k<l.length
  ·obtain⟨y,hy⟩:∃ y,y=l.getD k 0:=⟨_,rfl⟩
   have xi:w.cell? ⟨b,k,none⟩=some (.int .i64 y):=by rw[hy];exact hc k av
   have MG:w.cell? ⟨b',k,none⟩=some (.int .i64 y):=by rw[hy];exact EC k av
   clear hc EC hy;go_wp2;go_quiet (fail)
   go_wp2;go_roundw
   case rel=>exact⟨k+1,by omega,by go_num,_,rfl⟩
   case measure=>simp[intOf];omega
  ·go_wp2;go_ret;exact⟨rfl,al br n⟩
theorem Fb (b b':Nat) (r:Rul) (w:World) (h:cn w b r.verbs) (h':cn w b' r.verbs):
  Calls Tryz.prog 153 #[.agg #[.slice (some ⟨b,0,none⟩) r.verbs.length r.verbs.length,.string r.kind,.string r.team,.string r.pre],.agg #[.slice (some ⟨b',0,none⟩) r.verbs.length r.verbs.length,.string r.kind,.string r.team,.string r.pre]] w fun e w'=>e=.returned (.bool true)∧Bel w w':=by
 have cC:Bel w ((w.alloc (.cells #[.slice (some ⟨b,0,none⟩) r.verbs.length r.verbs.length,.string r.kind,.string r.team,.string r.pre] 124)).alloc (.cells #[.slice (some ⟨b',0,none⟩) r.verbs.length r.verbs.length,.string r.kind,.string r.team,.string r.pre] 124)):=ab (ab br _) _;obtain⟨w2,gQ⟩:∃ w2,w2=((w.alloc (.cells #[.slice (some ⟨b,0,none⟩) r.verbs.length r.verbs.length,.string r.kind,.string r.team,.string r.pre] 124)).alloc (.cells #[.slice (some ⟨b',0,none⟩) r.verbs.length r.verbs.length,.string r.kind,.string r.team,.string r.pre] 124)):=⟨_,rfl⟩
 have HX:Hid (Calls Tryz.prog 192 #[.slice (some ⟨b,0,none⟩) r.verbs.length r.verbs.length,.slice (some ⟨b',0,none⟩) r.verbs.length r.verbs.length] w2 fun e w'=>e=.returned (.bool true)∧Bel w2 w'):=by rw[gQ];exact Fl b b' r.verbs _ (h.later cC) (h'.later cC)
 have HB:Hid (Bel w w2):=by rw[gQ];exact cC
 have HC:Hid (w.heap.size+1<w2.heap.size∧(∀ o,w2.cell? ⟨w.heap.size,o,none⟩=(#[Value.slice (some ⟨b,0,none⟩) r.verbs.length r.verbs.length,.string r.kind,.string r.team,.string r.pre])[o]?)∧(∀ o,w2.cell? ⟨w.heap.size+1,o,none⟩=(#[Value.slice (some ⟨b',0,none⟩) r.verbs.length r.verbs.length,.string r.kind,.string r.team,.string r.pre])[o]?)):=by
  rw[gQ];refine⟨by simp,fun o=> ?_,fun o=> ?_⟩
  ·simp
  ·simp
 clear h h' cC;go_enter Tryz.func153,Tryz.ntmps153
 go_wp2_with fail
 rw[← gQ];clear gQ;refine HX.out.mono ?_;rintro e w3 ⟨rfl,aO⟩;have c:=fun o=>(aO.cell (p:=⟨w.heap.size,o,none⟩) (by have:=HC.out.1;show w.heap.size<w2.heap.size;omega)).trans (HC.out.2.1 o);have d:=fun o=>(aO.cell (p:=⟨w.heap.size+1,o,none⟩) HC.out.1).trans (HC.out.2.2 o);have c1:w3.cell? ⟨w.heap.size,1,none⟩=some (.string r.kind):=c 1;have c2:w3.cell? ⟨w.heap.size,2,none⟩=some (.string r.team):=c 2;have c3:w3.cell? ⟨w.heap.size,3,none⟩=some (.string r.pre):=c 3;have d1:w3.cell? ⟨w.heap.size+1,1,none⟩=some (.string r.kind):=d 1;have d2:w3.cell? ⟨w.heap.size+1,2,none⟩=some (.string r.team):=d 2;have d3:w3.cell? ⟨w.heap.size+1,3,none⟩=some (.string r.pre):=d 3;have fO:=hid (aa HB.out aO);clear c d aO HC HX HB;go_wp2;go_ret;exact⟨rfl,fO.out⟩
structure Gr where
 number:Int
 too:ByteArray
 by_:ByteArray
 rule:Rul
def Gr.none:Gr:=⟨0,ByteArray.empty,ByteArray.empty,Rul.none⟩
def Gr.sized (r:Gr):Prop:=r.too.size≤maxLen∧r.by_.size≤maxLen∧r.rule.verbs.length≤maxLen∧r.rule.sized
theorem cn.l7 {w:World} {b B:Nat} {l:List Int} (h:cn w b l) (fe:B<b) (o:Nat) (vs:List Value):cn (aI w B o 0 vs) b l:=
 ⟨by rw[bQ];exact h.lt,h.len,fun i hi=>(bt B o b i vs w 0 (Or.inl (by omega))).trans (h.at_ i hi)⟩
theorem LH (ra:Option Addr) (rc:Nat) (r:Gr) (left:Int) (w:World) (h0:0≤left) (h1:left≤1048576) (hs:r.sized):
  Calls Tryz.prog 56 #[.agg #[.int .i64 r.number,.string r.too,.string r.by_,.slice ra r.rule.verbs.length rc,.string r.rule.kind,.string r.rule.team,.string r.rule.pre],.int .i64 left] w fun e w'=>(∃ x:Int,e=.returned (.int .i64 x)∧szP (r.rule.verbs.length≤1048576) left x)∧Bel w w':=by
 have HS:=hid hs.2.2;have s0:=hs.1;have s1:=hs.2.1;clear hs;unfold maxLen at s0 s1;by_cases c1:left<(r.too.size:Int)
 ·go_enter Tryz.func56,Tryz.ntmps56
  go_wp2;go_ret;exact⟨⟨_,rfl,by unfold szP;exact⟨by omega,by omega,by omega⟩⟩,ab br _⟩
 by_cases c2:left - r.too.size<(r.by_.size:Int)
 ·go_enter Tryz.func56,Tryz.ntmps56
  go_wp2;go_ret;exact⟨⟨_,rfl,by unfold szP;exact⟨by omega,by omega,by omega⟩⟩,ab br _⟩
 go_enter Tryz.func56,Tryz.ntmps56
 go_wp2_with fail
 refine(E9 ra rc r.rule _ _ (by omega) (by omega) HS.out.1 HS.out.2).mono ?_;rintro e w1 ⟨⟨x,rfl,hx⟩,hb⟩;have q1: -1≤x:=hx.1;have q2:x≤left - r.too.size - r.by_.size:=hx.2.1;have HR:Hid (0≤x→(r.rule.verbs.length:Int)≤1048576):=fun h=>by have:=hx.2.2 h;omega
 have HB:Hid (Bel w w1):=aa (ab br _) hb;clear hx hb;by_cases c3:x<0
 all_goals
  go_wp2;go_ret;refine⟨⟨_,rfl, ?_⟩,HB.out⟩;unfold szP;exact⟨by omega,by omega,fun h=>by have:=HR.out (by omega);omega⟩
theorem Lz (ra:Option Addr) (rc:Nat) (r:Gr) (w:World) (hl:r.rule.verbs.length≤1048576) (h:iv w (.slice ra r.rule.verbs.length rc) r.rule.verbs):
  Calls Tryz.prog 78 #[.agg #[.int .i64 r.number,.string r.too,.string r.by_,.slice ra r.rule.verbs.length rc,.string r.rule.kind,.string r.rule.team,.string r.rule.pre]] w fun e w'=>(∃ b1,e=.returned (.agg #[.int .i64 r.number,.string r.too,.string r.by_,.slice (some ⟨b1,0,none⟩) r.rule.verbs.length r.rule.verbs.length,.string r.rule.kind,.string r.rule.team,.string r.rule.pre])∧w.heap.size≤b1∧cn w' b1 r.rule.verbs)∧Bel w w':=by
 have HH:=hid h;clear h;obtain⟨wb,nJ⟩:∃ wb,wb=((w.alloc (.cells #[.int .i64 r.number,.string r.too,.string r.by_,.slice ra r.rule.verbs.length rc,.string r.rule.kind,.string r.rule.team,.string r.rule.pre] 102)).alloc (.cells #[.int .i64 0,.string ⟨#[]⟩,.string ⟨#[]⟩,.slice none 0 0,.string ⟨#[]⟩,.string ⟨#[]⟩,.string ⟨#[]⟩] 126)).alloc (.cells #[.int .i64 r.number,.string r.too,.string r.by_,.slice none 0 0,.string ⟨#[]⟩,.string ⟨#[]⟩,.string ⟨#[]⟩] 126):=⟨_,rfl⟩
 have gv:Hid (Bel w wb):=by show Below _ _ _;rw[nJ];exact ab (ab (ab br _) _) _
 have pB:Hid (ai wb (w.heap.size+2) 126 7):=by show ai _ _ _ _;rw[nJ];exact ai.im _ _ _ _ _ rfl (by simp)
 have F1:Hid (ai wb (w.heap.size+1) 126 7):=by show ai _ _ _ _;rw[nJ];exact(ai.im _ _ _ _ _ rfl (by simp)).cy _
 have DY:Hid (wb.heap.size=w.heap.size+3):=by show _=_;rw[nJ];simp
 have vk:Hid (wb.cell? ⟨w.heap.size+2,0,none⟩=some (.int .i64 r.number)∧wb.cell? ⟨w.heap.size+2,1,none⟩=some (.string r.too)∧wb.cell? ⟨w.heap.size+2,2,none⟩=some (.string r.by_)):=by show _∧_∧_;rw[nJ];exact⟨World.cell?_alloc_at _ _ _ _ (by simp),World.cell?_alloc_at _ _ _ _ (by simp),World.cell?_alloc_at _ _ _ _ (by simp)⟩
 have HAb:Hid (bd wb w.heap.size (.int .i64 r.number) (.string r.too) (.string r.by_) (.slice ra r.rule.verbs.length rc) (.string r.rule.kind) (.string r.rule.team) (.string r.rule.pre)):=by show bd _ _ _ _ _ _ _ _ _;rw[nJ];exact((bd.bp w _ _ _ _ _ _ _ _ _ rfl).cy _).cy _
 go_enter Tryz.func78,Tryz.ntmps78
 go_upto_region 5 with fail
 rw[← nJ];clear nJ;obtain⟨yz,y0,y1,y2,y3,y4,y5,y6⟩:=HAb.out;go_wp2_with fail
 refine(Fe ra rc r.rule wb hl (HH.out.later gv.out)).mono ?_;rintro e wc ⟨⟨b1,rfl,hle,_,EV⟩,hb⟩;have jE:=hid (aa gv.out hb);have qx:=hid (pB.out.later hb);have Ip:=hid (F1.out.later hb);have gX:w.heap.size+2<wb.heap.size:=by have:=DY.out;omega
 have c0:=(hb.cell (p:=⟨w.heap.size+2,0,none⟩) gX).trans vk.out.1;have c1:=(hb.cell (p:=⟨w.heap.size+2,1,none⟩) gX).trans vk.out.2.1;have c2:=(hb.cell (p:=⟨w.heap.size+2,2,none⟩) gX).trans vk.out.2.2;have M0:Hid (cn wc b1 r.rule.verbs∧w.heap.size+2<b1):=⟨EV,by have:=DY.out;omega⟩
 clear hb EV hle gX yz y0 y1 y2 y3 y4 y5 y6 gv pB F1 DY vk HAb;obtain⟨wd,wU⟩:∃ wd,wd=aI wc (w.heap.size+2) 3 0 [.slice (some ⟨b1,0,none⟩) r.rule.verbs.length r.rule.verbs.length,.string r.rule.kind,.string r.rule.team,.string r.rule.pre]:=⟨_,rfl⟩
 have lI:Hid (Bel w wd):=by show Below _ _ _;rw[wU];exact aY (a:=w) _ (by omega) _ _ _ jE.out
 have vw:Hid (ai wd (w.heap.size+1) 126 7):=by show ai _ _ _ _;rw[wU];exact bS _ (by omega) _ _ _ Ip.out
 have BG:Hid (cn wd b1 r.rule.verbs∧w.heap.size+2<b1):=by show _∧_;rw[wU];exact⟨M0.out.1.l7 M0.out.2 _ _,M0.out.2⟩
 have p:=fun i hi=>cB 3 [.slice (some ⟨b1,0,none⟩) r.rule.verbs.length r.rule.verbs.length,.string r.rule.kind,.string r.rule.team,.string r.rule.pre] wc 0 qx.out (by simp) i hi;have d0:wd.cell? ⟨w.heap.size+2,0,none⟩=some (.int .i64 r.number):=by rw[wU];exact(bt _ _ _ _ _ _ _ (by omega)).trans c0
 have d1:wd.cell? ⟨w.heap.size+2,1,none⟩=some (.string r.too):=by rw[wU];exact(bt _ _ _ _ _ _ _ (by omega)).trans c1
 have d2:wd.cell? ⟨w.heap.size+2,2,none⟩=some (.string r.by_):=by rw[wU];exact(bt _ _ _ _ _ _ _ (by omega)).trans c2
 have d3:wd.cell? ⟨w.heap.size+2,3,none⟩=some (.slice (some ⟨b1,0,none⟩) r.rule.verbs.length r.rule.verbs.length):=by rw[wU];exact p 0 (by simp)
 have d4:wd.cell? ⟨w.heap.size+2,4,none⟩=some (.string r.rule.kind):=by rw[wU];exact p 1 (by simp)
 have d5:wd.cell? ⟨w.heap.size+2,5,none⟩=some (.string r.rule.team):=by rw[wU];exact p 2 (by simp)
 have d6:wd.cell? ⟨w.heap.size+2,6,none⟩=some (.string r.rule.pre):=by rw[wU];exact p 3 (by simp)
 have dz:w.heap.size+2<wd.heap.size:=by rw[wU,bQ];exact qx.out.lt
 have ij:=qx.out.frozen;have hz:=qx.out.lt;obtain⟨z3,e3⟩:=qx.out.cell 3 (by omega);obtain⟨z4,e4⟩:=qx.out.cell 4 (by omega);obtain⟨z5,e5⟩:=qx.out.cell 5 (by omega);obtain⟨z6,e6⟩:=qx.out.cell 6 (by omega);simp only[aI,Nat.add_zero,Nat.zero_add,Nat.reduceAdd]at wU;clear p c0 c1 c2;go_upto_region 6 with fail
 rw[← wU];clear wU ij hz e3 e4 e5 e6;have ij:=vw.out.frozen;have hz:=vw.out.lt;obtain⟨z0,e0⟩:=vw.out.cell 0 (by omega);obtain⟨z1,e1⟩:=vw.out.cell 1 (by omega);obtain⟨z2,e2⟩:=vw.out.cell 2 (by omega);obtain⟨z3,e3⟩:=vw.out.cell 3 (by omega);obtain⟨z4,e4⟩:=vw.out.cell 4 (by omega);obtain⟨z5,e5⟩:=vw.out.cell 5 (by omega);obtain⟨z6,e6⟩:=vw.out.cell 6 (by omega);go_wp2;have p:=fun i hi=>cB 0 [.int .i64 r.number,.string r.too,.string r.by_,.slice (some ⟨b1,0,none⟩) r.rule.verbs.length r.rule.verbs.length,.string r.rule.kind,.string r.rule.team,.string r.rule.pre] wd 0 vw.out (by simp) i hi;have t0:=p 0 (by simp);have t1:=p 1 (by simp);have t2:=p 2 (by simp);have t3:=p 3 (by simp);have t4:=p 4 (by simp);have t5:=p 5 (by simp);have t6:=p 6 (by simp);have qK:Hid (cn (aI wd (w.heap.size+1) 0 0 [.int .i64 r.number,.string r.too,.string r.by_,.slice (some ⟨b1,0,none⟩) r.rule.verbs.length r.rule.verbs.length,.string r.rule.kind,.string r.rule.team,.string r.rule.pre]) b1 r.rule.verbs∧Bel w (aI wd (w.heap.size+1) 0 0 [.int .i64 r.number,.string r.too,.string r.by_,.slice (some ⟨b1,0,none⟩) r.rule.verbs.length r.rule.verbs.length,.string r.rule.kind,.string r.rule.team,.string r.rule.pre])):=⟨BG.out.1.l7 (by have:=BG.out.2;omega) _ _,aY (a:=w) _ (by omega) _ _ _ lI.out⟩
 simp only[aI,Nat.add_zero,Nat.zero_add,Nat.reduceAdd,List.getElem?_cons_zero,List.getElem?_cons_succ]at t0 t1 t2 t3 t4 t5 t6;refine bodyPost_ret (v:=.agg #[.int .i64 r.number,.string r.too,.string r.by_,.slice (some ⟨b1,0,none⟩) r.rule.verbs.length r.rule.verbs.length,.string r.rule.kind,.string r.rule.team,.string r.rule.pre]) (by simp[results,Tryz.results78,go_sem,t0,t1,t2,t3,t4,t5,t6]) rfl ⟨⟨b1,rfl,by have:=BG.out.2;omega, ?_⟩, ?_⟩
 ·exact qK.out.1
 ·exact qK.out.2
theorem Ln (b1 b1':Nat) (r:Gr) (w:World) (h:cn w b1 r.rule.verbs) (h':cn w b1' r.rule.verbs):
  Calls Tryz.prog 102 #[.agg #[.int .i64 r.number,.string r.too,.string r.by_,.slice (some ⟨b1,0,none⟩) r.rule.verbs.length r.rule.verbs.length,.string r.rule.kind,.string r.rule.team,.string r.rule.pre],.agg #[.int .i64 r.number,.string r.too,.string r.by_,.slice (some ⟨b1',0,none⟩) r.rule.verbs.length r.rule.verbs.length,.string r.rule.kind,.string r.rule.team,.string r.rule.pre]] w fun e w'=>e=.returned (.bool true)∧Bel w w':=by
 have HX:Hid (∀ o1 o2,Calls Tryz.prog 153 #[.agg #[.slice (some ⟨b1,0,none⟩) r.rule.verbs.length r.rule.verbs.length,.string r.rule.kind,.string r.rule.team,.string r.rule.pre],.agg #[.slice (some ⟨b1',0,none⟩) r.rule.verbs.length r.rule.verbs.length,.string r.rule.kind,.string r.rule.team,.string r.rule.pre]] ((w.alloc o1).alloc o2) fun e w'=>e=.returned (.bool true)∧Below ((w.alloc o1).alloc o2).heap.size ((w.alloc o1).alloc o2) w'):=fun o1 o2=>Fb b1 b1' r.rule _ (h.later (ab (ab br _) _)) (h'.later (ab (ab br _) _));clear h h';go_enter Tryz.func102,Tryz.ntmps102
 go_wp2_with fail
 refine(HX.out _ _).mono ?_;rintro e w1 ⟨rfl,hb⟩;have HB:Hid (Bel w w1):=aa (ab (ab br _) _) hb;clear hb HX;go_wp2;go_ret;exact⟨rfl,HB.out⟩
def GrC (w:World) (b o:Nat) (r:Gr):Prop:=
 ∃ ra rc,w.cell? ⟨b,o,none⟩=some (.int .i64 r.number)∧w.cell? ⟨b,o+1,none⟩=some (.string r.too)∧w.cell? ⟨b,o+2,none⟩=some (.string r.by_)∧w.cell? ⟨b,o+3,none⟩=some (.slice ra r.rule.verbs.length rc)∧w.cell? ⟨b,o+4,none⟩=some (.string r.rule.kind)∧w.cell? ⟨b,o+5,none⟩=some (.string r.rule.team)∧w.cell? ⟨b,o+6,none⟩=some (.string r.rule.pre)∧iv w (.slice ra r.rule.verbs.length rc) r.rule.verbs∧r.sized
theorem GrC.later {w w':World} {b o:Nat} {r:Gr} (h:GrC w b o r) (hb:Bel w w') (av:b<w.heap.size):GrC w' b o r:=by
 obtain⟨ra,rc,c0,c1,c2,c3,c4,c5,c6,hn⟩:=h;have q:∀ j,w'.cell? ⟨b,j,none⟩=w.cell? ⟨b,j,none⟩:=fun j=>hb.cell (p:=⟨b,j,none⟩) av;exact⟨ra,rc,(q _).trans c0,(q _).trans c1,(q _).trans c2,(q _).trans c3,(q _).trans c4,(q _).trans c5,(q _).trans c6,⟨hn.1.later hb,hn.2⟩⟩
def nS (w:World) (v:Value) (rs:List Gr):Prop:=
 (∃ a cap,v=.slice a 0 cap∧rs=[])∨∃ b off cap,v=.slice (some ⟨b,off,none⟩) rs.length cap∧b<w.heap.size∧rs.length≤maxLen∧∀ i,i<rs.length→GrC w b (off+i*7) (rs.getD i Gr.none)
theorem nS.later {w w':World} {v:Value} {rs:List Gr} (h:nS w v rs) (hb:Bel w w'):nS w' v rs:=by
 rcases h with h|⟨b,off,cap,rfl,h1,h2,h3⟩
 ·exact Or.inl h
 ·exact Or.inr ⟨b,off,cap,rfl,lo h1 hb.size,h2,fun i hi=>(h3 i hi).later hb h1⟩
def Gr.small (r:Gr):Prop:=r.rule.verbs.length≤1048576
def i5 (w:World) (B o:Nat) (r:Gr):Prop:=
 ∃ b1,(B<b1)∧w.cell? ⟨B,o,none⟩=some (.int .i64 r.number)∧w.cell? ⟨B,o+1,none⟩=some (.string r.too)∧w.cell? ⟨B,o+2,none⟩=some (.string r.by_)∧w.cell? ⟨B,o+3,none⟩=some (.slice (some ⟨b1,0,none⟩) r.rule.verbs.length r.rule.verbs.length)∧w.cell? ⟨B,o+4,none⟩=some (.string r.rule.kind)∧w.cell? ⟨B,o+5,none⟩=some (.string r.rule.team)∧w.cell? ⟨B,o+6,none⟩=some (.string r.rule.pre)∧cn w b1 r.rule.verbs∧r.sized
theorem i5.later {w w':World} {b o:Nat} {r:Gr} (h:i5 w b o r) (hb:Bel w w') (av:b<w.heap.size):i5 w' b o r:=by
 obtain⟨b1,h0,c0,c1,c2,c3,c4,c5,c6,hn⟩:=h;have q:∀ j,w'.cell? ⟨b,j,none⟩=w.cell? ⟨b,j,none⟩:=fun j=>hb.cell (p:=⟨b,j,none⟩) av;exact⟨b1,h0,(q _).trans c0,(q _).trans c1,(q _).trans c2,(q _).trans c3,(q _).trans c4,(q _).trans c5,(q _).trans c6,⟨hn.1.later hb,hn.2⟩⟩
structure gy (w:World) (B:Nat) (rs:List Gr):Prop where
 lt:B<w.heap.size
 len:rs.length≤1048576
 at_:∀ i,i<rs.length→i5 w B (i*7) (rs.getD i Gr.none)
 own:ai w B 126 (rs.length*7)
theorem gy.later {w w':World} {B:Nat} {rs:List Gr} (h:gy w B rs) (hb:Bel w w'):gy w' B rs:=
 ⟨lo h.lt hb.size,h.len,fun i hi=>(h.at_ i hi).later hb h.lt,h.own.later hb⟩
theorem i5.aI {w:World} {B o:Nat} {r:Gr} (h:i5 w B o r) (o':Nat) (vs:List Value) (ho:o+7≤o'):i5 (aI w B o' 0 vs) B o r:=by
 obtain⟨b1,h0,c0,c1,c2,c3,c4,c5,c6,hn⟩:=h;have c:∀ j,j<o'→(YtbiokpmdghmgcaaGreat.aI w B o' 0 vs).cell? ⟨B,j,none⟩=w.cell? ⟨B,j,none⟩:=fun j hj=>bt B o' B j vs w 0 (by omega);exact⟨b1,h0,(c _ (by omega)).trans c0,(c _ (by omega)).trans c1,(c _ (by omega)).trans c2,(c _ (by omega)).trans c3,(c _ (by omega)).trans c4,(c _ (by omega)).trans c5,(c _ (by omega)).trans c6,⟨hn.1.l7 h0 o' vs,hn.2⟩⟩
theorem i5.sc {w:World} {B o p:Nat} {r:Gr} (h:i5 w B o r) (hp:p<B) (j:Nat) (v:Value):i5 (w.setCell ⟨p,j,none⟩ v) B o r:=by
 obtain⟨b1,h0,c0,c1,c2,c3,c4,c5,c6,hn⟩:=h;have c:∀ q,(w.setCell ⟨p,j,none⟩ v).cell? ⟨B,q,none⟩=w.cell? ⟨B,q,none⟩:=fun q=>aF _ _ _ _ _ _ (by omega);have h0:=(show p<b1 by omega)
 exact⟨b1,by omega,(c _).trans c0,(c _).trans c1,(c _).trans c2,(c _).trans c3,(c _).trans c4,(c _).trans c5,(c _).trans c6,⟨hn.1.l7 h0 j [v],hn.2⟩⟩
theorem gy.sc {w:World} {B p:Nat} {rs:List Gr} (h:gy w B rs) (hp:p<B) (j:Nat) (v:Value):gy (w.setCell ⟨p,j,none⟩ v) B rs:=
 ⟨by rw[bg];exact h.lt,h.len,fun i hi=>(h.at_ i hi).sc hp j v,h.own.bk (by omega) _ _⟩
theorem uF {w:World} {B:Nat} {t:TypeId} {n:Nat} (hO:ai w B t n) (o:Nat) (ho:o+7≤n) (r:Gr) (b1:Nat) (h0:B<b1) (hn:cn w b1 r.rule.verbs∧r.sized):
  i5 (aI w B o 0 [.int .i64 r.number,.string r.too,.string r.by_,.slice (some ⟨b1,0,none⟩) r.rule.verbs.length r.rule.verbs.length,.string r.rule.kind,.string r.rule.team,.string r.rule.pre]) B o r:=by
 have c:=fun i hi=>cB o [.int .i64 r.number,.string r.too,.string r.by_,.slice (some ⟨b1,0,none⟩) r.rule.verbs.length r.rule.verbs.length,.string r.rule.kind,.string r.rule.team,.string r.rule.pre] w 0 hO (by simp;omega) i hi;exact⟨b1,h0,c 0 (by simp),c 1 (by simp),c 2 (by simp),c 3 (by simp),c 4 (by simp),c 5 (by simp),c 6 (by simp),⟨hn.1.l7 h0 o _,hn.2⟩⟩
theorem Tryz.Cv:(Tryz.prog.info? 126).map (fun i=>(i.zero,i.size,i.bytes))=some (some (.agg #[.int .i64 0,.string ByteArray.empty,.string ByteArray.empty,.slice none 0 0,.string ByteArray.empty,.string ByteArray.empty,.string ByteArray.empty]),7,112):=by kernel_rfl
theorem vS (n:Nat) (h:n≤1048576):∃ cs:Array Value,cs.size=n*7∧∀ W:World,
  (Instr.makeSlice 43 (.int .i64 (n:Int)) (.int .i64 (n:Int))).run Tryz.prog W=.ok (.slice (some ⟨W.heap.size,0,none⟩) n n) (W.alloc (.cells cs 126)):=by
 obtain⟨i,hi,lP⟩:=Option.map_eq_some_iff.1 Tryz.Cv;simp only[Prod.mk.injEq]at lP;obtain⟨hz,hs,hb⟩:=lP;refine⟨madeCells (Value.cells (.agg #[.int .i64 0,.string ByteArray.empty,.string ByteArray.empty,.slice none 0 0,.string ByteArray.empty,.string ByteArray.empty,.string ByteArray.empty])) (n*7),size_madeCells _ _,fun W=> ?_⟩;have hr:=run_make (P:=Tryz.prog) W 43 126 i _ Tryz.underlying43 hi hz .i64 .i64 n n (by omega) (Int.le_refl _) (by rw[hb];omega) (by omega);simp only[Int.toNat_natCast,hs]at hr;exact hr
theorem xJ (b off cap:Nat) (rs:List Gr) (w:World) (hl:rs.length≤1048576) (dQ:∀ r∈rs,r.small) (hb:b<w.heap.size)
  (hc:∀ i,i<rs.length→GrC w b (off+i*7) (rs.getD i Gr.none)):
  Calls Tryz.prog 33 #[.slice (some ⟨b,off,none⟩) rs.length cap] w fun e w'=>e=.returned (.slice (some ⟨w.heap.size,0,none⟩) rs.length rs.length)∧Bel w w'∧ai w' w.heap.size 126 (rs.length*7)∧
   ∀ i,i<rs.length→i5 w' w.heap.size (i*7) (rs.getD i Gr.none):=by
 obtain⟨cs,bP,iL⟩:=vS rs.length hl;have HC:Hid (∀ i,i<rs.length→GrC w b (off+i*7) (rs.getD i Gr.none)∧(rs.getD i Gr.none).small):=by
  intro i hi;refine⟨hc i hi, ?_⟩;have e:rs.getD i Gr.none=rs[i]:=by simp[hi]
  rw[e];exact dQ _ (List.getElem_mem hi)
 clear hc dQ;go_enter Tryz.func33,Tryz.ntmps33
 go_wp2;go_loopw [4] (fun i wr=>∃ k:Nat,k≤rs.length∧i=.int .i64 k∧Bel w wr∧ai wr w.heap.size 126 (rs.length*7)∧∀ i,i<k→i5 wr w.heap.size (i*7) (rs.getD i Gr.none)) (fun i _=>rs.length - (intOf i).toNat)
 case atStart=>exact⟨0,nz,rfl,ab br _,ai.alloc w cs 126 _ bP,fun i hi=>absurd hi (Nat.not_lt_zero i)⟩
 case round=>
  obtain⟨k,hk,rfl,hB,hO,aw⟩:=hrel;have HA:=hid aw;have HO:=hid hO;clear aw iL bP hO;by_cases av:k<rs.length
  ·have hf:=(HC.out k av).1.later hB hb;obtain⟨r,hm⟩:∃ r,r=rs.getD k Gr.none:=⟨_,rfl⟩
   rw[← hm]at hf;obtain⟨ra,rc,c0,c1,c2,c3,c4,c5,c6,hn⟩:=hf;have HX:Hid ((iv wr (.slice ra r.rule.verbs.length rc) r.rule.verbs∧r.sized)∧r=rs.getD k Gr.none∧r.small):=⟨hn,hm,by rw[hm];exact(HC.out k av).2⟩
   clear hm hn;go_wp2_with fail
   refine(Lz ra rc r wr HX.out.2.2 HX.out.1.1).mono ?_;rintro e w2 ⟨⟨b1,rfl,hle,EV⟩,aA⟩;have bE:=aa hB aA;have eK:=HO.out.later aA;have HP:Hid (∀ v,v=[.int .i64 r.number,.string r.too,.string r.by_,.slice (some ⟨b1,0,none⟩) r.rule.verbs.length r.rule.verbs.length,.string r.rule.kind,.string r.rule.team,.string r.rule.pre]→
     Bel w (aI w2 w.heap.size (k*7) 0 v)∧ai (aI w2 w.heap.size (k*7) 0 v) w.heap.size 126 (rs.length*7)∧∀ i,i<k+1→i5 (aI w2 w.heap.size (k*7) 0 v) w.heap.size (i*7) (rs.getD i Gr.none)):=by
    intro v hv;subst hv;refine⟨aY (a:=w) _ nr _ _ _ bE,fM _ _ _ _ eK,fun i hi=> ?_⟩;by_cases hik:i<k
    ·exact((HA.out i hik).later aA HO.out.lt).aI (k*7) _ (by omega)
    ·obtain rfl:i=k:=by omega
     rw[← HX.out.2.1];exact uF eK (i*7) (by omega) r b1 (lo HO.out.lt hle) ⟨EV,HX.out.1.2⟩
   clear c0 c1 c2 c3 c4 c5 c6 HX EV hle;have ij:=eK.frozen;obtain⟨v0,o0⟩:=eK.cell (k*7) (by omega);obtain⟨v1,o1⟩:=eK.cell (k*7+1) (by omega);obtain⟨v2,o2⟩:=eK.cell (k*7+2) (by omega);obtain⟨v3,o3⟩:=eK.cell (k*7+3) (by omega);obtain⟨v4,o4⟩:=eK.cell (k*7+4) (by omega);obtain⟨v5,o5⟩:=eK.cell (k*7+5) (by omega);obtain⟨v6,o6⟩:=eK.cell (k*7+6) (by omega);clear eK bE aA;go_wp2;go_roundw
   case rel=>exact⟨k+1,by omega,by go_num,(HP.out _ rfl).1,(HP.out _ rfl).2.1,(HP.out _ rfl).2.2⟩
   case measure=>simp[intOf];omega
  ·obtain rfl:k=rs.length:=by omega
   go_wp2;go_ret;exact⟨rfl,hB,HO.out,HA.out⟩
theorem x9 (a:Option Addr) (cap:Nat) (w:World):
  Calls Tryz.prog 33 #[.slice a 0 cap] w fun e w'=>e=.returned (.slice (some ⟨w.heap.size,0,none⟩) 0 0)∧∃ cs:Array Value,cs.size=0∧w'=w.alloc (.cells cs 126):=by
 obtain⟨cs,rB,iJ⟩:=vS 0 (by omega);have iL:∀ W:World,(Instr.makeSlice 43 (.int .i64 0) (.int .i64 0)).run Tryz.prog W=.ok (.slice (some ⟨W.heap.size,0,none⟩) 0 0) (W.alloc (.cells cs 126)):=iJ;clear iJ;go_enter Tryz.func33,Tryz.ntmps33
 go_wp2;refine wp_loop_rounds 1 ?_;rw[rounds_succ];go_wp2;go_ret;exact⟨rfl,_,by omega,rfl⟩
theorem IW (v:Value) (rs:List Gr) (w:World) (hl:rs.length≤1048576) (dQ:∀ r∈rs,r.small) (h:nS w v rs):
  Calls Tryz.prog 33 #[v] w fun e w'=>e=.returned (.slice (some ⟨w.heap.size,0,none⟩) rs.length rs.length)∧Bel w w'∧gy w' w.heap.size rs:=by
 rcases h with⟨a,cap,rfl,rfl⟩|⟨b,off,cap,rfl,hb,_,hc⟩
 ·refine(x9 a cap w).mono ?_;rintro e w' ⟨rfl,cs,bP,rfl⟩;exact⟨rfl,ab br _,⟨by simp,by simp,fun i hi=>absurd hi (Nat.not_lt_zero i),ai.alloc w cs _ _ (by simpa using bP)⟩⟩
 ·refine(xJ b off cap rs w hl dQ hb hc).mono ?_;rintro e w' ⟨rfl,h1,h2,h3⟩;exact⟨rfl,h1,h2.lt,hl,h3,h2⟩
theorem IF (B B':Nat) (rs:List Gr) (w:World) (h:gy w B rs) (h':gy w B' rs):
  Calls Tryz.prog 47 #[.slice (some ⟨B,0,none⟩) rs.length rs.length,.slice (some ⟨B',0,none⟩) rs.length rs.length] w fun e w'=>e=.returned (.bool true)∧Bel w w':=by
 have hl:=h.len;have HH:=hid (And.intro h h');clear h h';go_enter Tryz.func47,Tryz.ntmps47
 go_wp2;go_loopw [5] (fun i wr=>∃ k:Nat,k≤rs.length∧i=.int .i64 k∧Bel w wr) (fun i _=>rs.length - (intOf i).toNat)
 case atStart=>exact⟨0,nz,rfl,br⟩
 case round=>
  obtain⟨k,hk,rfl,hW⟩:=hrel;by_cases av:k<rs.length
  ·have q:=(HH.out.1.later hW).at_ k av;have q':=(HH.out.2.later hW).at_ k av;obtain⟨r,hm⟩:∃ r,r=rs.getD k Gr.none:=⟨_,rfl⟩
   rw[← hm]at q q';obtain⟨b1,_,c0,c1,c2,c3,c4,c5,c6,hn⟩:=q;obtain⟨b1',_,d0,d1,d2,d3,d4,d5,d6,zl⟩:=q';have HX:=hid fun (W:World) (hW:Bel wr W)=>Ln b1 b1' r W (hn.1.later hW) (zl.1.later hW);clear hm hn zl;go_wp2_with fail
   go_region_with (go_at_call 102;refine(HX.out _ ?_).mono ?_;(repeat(first|exact br|refine Below.drew ?_));rintro e w2 ⟨rfl,aA⟩)
   all_goals
    go_wp2;go_roundw
    case rel=>
     refine⟨k+1,by omega,by go_num, ?_⟩;repeat(first|exact aa hW aA|exact aa hW.drew aA|exact aa hW.drew.drew aA|refine Below.drew ?_)
    case measure=>simp[intOf];omega
  ·go_wp2;go_ret;exact⟨rfl,hW⟩
theorem nN {rs:List Gr} {k:Nat} (h:∀ r∈rs.take k,r.small) (hk:k<rs.length) (hs:(rs.getD k Gr.none).small):∀ r∈rs.take (k+1),r.small:=by
 have e:rs.getD k Gr.none=rs[k]:=by simp[hk]
 rw[e]at hs;intro r hr;rw[List.take_succ_eq_append_getElem hk,List.mem_append,List.mem_singleton]at hr;rcases hr with hr|rfl
 ·exact h r hr
 ·exact hs
theorem xR (b off cap:Nat) (rs:List Gr) (left:Int) (w:World) (h0:0≤left) (h1:left≤1048576) (hb:b<w.heap.size) (hl:rs.length≤maxLen)
  (hc:∀ i,i<rs.length→GrC w b (off+i*7) (rs.getD i Gr.none)):
  Calls Tryz.prog 21 #[.slice (some ⟨b,off,none⟩) rs.length cap,.int .i64 left] w fun e w'=>(∃ x:Int,e=.returned (.int .i64 x)∧szP ((rs.length:Int)≤left∧∀ r∈rs,r.small) left x)∧Bel w w':=by
 unfold maxLen at hl;have HC:=hid hc;obtain⟨P,hP⟩:∃ P:Prop,P=((rs.length:Int)≤left∧∀ r∈rs,r.small):=⟨_,rfl⟩
 have HP:=hid hP;rw[← hP];clear hc hP;by_cases hneg:left<(rs.length:Int)
 ·go_enter Tryz.func21,Tryz.ntmps21
  go_wp2;go_ret;exact⟨⟨_,rfl,by unfold szP;refine⟨by omega,by omega,fun h=>by omega⟩⟩,br⟩
 ·go_enter Tryz.func21,Tryz.ntmps21
  go_wp2;go_loopw [1,5] (fun l i wr=>∃ (k:Nat) (x:Int),k≤rs.length∧i=.int .i64 k∧l=.int .i64 x∧0≤x∧x≤left∧(∀ r∈rs.take k,r.small)∧Bel w wr) (fun _ i _=>rs.length - (intOf i).toNat)
  case atStart=>exact⟨0,_,nz,rfl,rfl,by omega,by omega,fun r hr=>by simp at hr,br⟩
  case round=>
   obtain⟨k,x,hk,rfl,rfl,x0,x1,dQ,hB⟩:=hrel;have HS:=hid dQ;clear dQ;by_cases av:k<rs.length
   ·have hf:=(HC.out k av).later hB hb;obtain⟨r,hm⟩:∃ r,r=rs.getD k Gr.none:=⟨_,rfl⟩
    rw[← hm]at hf;obtain⟨ra,rc,c0,c1,c2,c3,c4,c5,c6,hn⟩:=hf;have HM:=hid (And.intro hm hn);clear hm hn;go_wp2_with fail
    refine(LH ra rc r x wr x0 (by omega) HM.out.2.2).mono ?_;rintro e w2 ⟨⟨x',rfl,hx⟩,aA⟩;have HX:=hid hx;have q1:=hx.1;have q2:=hx.2.1;have bE:=aa hB aA;clear aA c0 c1 c2 c3 c4 c5 c6 hx;by_cases c2:x'<0
    ·go_wp2;go_ret;exact⟨⟨_,rfl,by unfold szP;exact⟨by omega,by omega,fun h=>by omega⟩⟩,bE⟩
    ·have HN:=hid (nN HS.out av (by rw[← HM.out.1];exact HX.out.2.2 (by omega)));go_wp2;go_roundw
     case rel=>exact⟨k+1,_,by omega,by go_num,rfl,by omega,by omega,HN.out,bE⟩
     case measure=>simp[intOf];omega
   ·have HQ:Hid P:=by
     show P;rw[HP.out];have:=HS.out;rw[List.take_of_length_le (by omega)]at this;exact⟨by omega,this⟩
    go_wp2;go_ret;exact⟨⟨_,rfl,by unfold szP;exact⟨by omega,by omega,fun _=>HQ.out⟩⟩,hB⟩
theorem xn (a:Option Addr) (cap:Nat) (left:Int) (w:World) (h0:0≤left) (h1:left≤1048576):
  Calls Tryz.prog 21 #[.slice a 0 cap,.int .i64 left] w fun e w'=>e=.returned (.int .i64 left)∧w=w':=by
 go_enter Tryz.func21,Tryz.ntmps21
 go_wp2;refine wp_loop_rounds 1 ?_;rw[rounds_succ];go_wp2;go_ret;exact⟨Pl.aP (by omega),rfl⟩
theorem Iv (v:Value) (rs:List Gr) (left:Int) (w:World) (h0:0≤left) (h1:left≤1048576) (h:nS w v rs):
  Calls Tryz.prog 21 #[v,.int .i64 left] w fun e w'=>(∃ x:Int,e=.returned (.int .i64 x)∧szP ((rs.length:Int)≤left∧∀ r∈rs,r.small) left x)∧Bel w w':=by
 rcases h with⟨a,cap,rfl,rfl⟩|⟨b,off,cap,rfl,hb,hl,hc⟩
 ·refine(xn a cap left w h0 h1).mono ?_;rintro e w' ⟨rfl,rfl⟩;exact⟨⟨_,rfl,by unfold szP;exact⟨by omega,by omega,fun _=>⟨by simpa using h0,fun r hr=>by simp at hr⟩⟩⟩,br⟩
 ·exact xR b off cap rs left w h0 h1 hb hl hc
def Ob.none:Ob:=⟨ByteArray.empty,ByteArray.empty,ByteArray.empty,[],false,[],0⟩
theorem kV.l7 {w:World} {b1 b2 B:Nat} {o:Ob} (h:kV w b1 b2 o) (h1:B<b1) (h2:B<b2) (o':Nat) (vs:List Value):kV (aI w B o' 0 vs) b1 b2 o:=
 ⟨⟨by rw[bQ];exact h.arg.lt1,by rw[bQ];exact h.arg.lt2,h.arg.len1,h.arg.len2,fun i hi=>(bt B o' b1 i vs w 0 (Or.inl (by omega))).trans (h.arg.at1 i hi),fun i hi=>(bt B o' b2 i vs w 0 (Or.inl (by omega))).trans (h.arg.at2 i hi)⟩,h.z1,h.z2,h.sized⟩
def ObC (w:World) (b o:Nat) (r:Ob):Prop:=
 ∃ v1 v2,w.cell? ⟨b,o,none⟩=some (.string r.kind)∧w.cell? ⟨b,o+1,none⟩=some (.string r.name)∧w.cell? ⟨b,o+2,none⟩=some (.string r.team)∧w.cell? ⟨b,o+3,none⟩=some (v1)∧w.cell? ⟨b,o+4,none⟩=some (.bool r.ending)∧w.cell? ⟨b,o+5,none⟩=some (v2)∧w.cell? ⟨b,o+6,none⟩=some (.int .i64 r.version)∧yo w v1 v2 r
theorem ObC.later {w w':World} {b o:Nat} {r:Ob} (h:ObC w b o r) (hb:Bel w w') (av:b<w.heap.size):ObC w' b o r:=by
 obtain⟨v1,v2,c0,c1,c2,c3,c4,c5,c6,hn⟩:=h;have q:∀ j,w'.cell? ⟨b,j,none⟩=w.cell? ⟨b,j,none⟩:=fun j=>hb.cell (p:=⟨b,j,none⟩) av;exact⟨v1,v2,(q _).trans c0,(q _).trans c1,(q _).trans c2,(q _).trans c3,(q _).trans c4,(q _).trans c5,(q _).trans c6,hn.later hb⟩
def nR (w:World) (v:Value) (rs:List Ob):Prop:=
 (∃ a cap,v=.slice a 0 cap∧rs=[])∨∃ b off cap,v=.slice (some ⟨b,off,none⟩) rs.length cap∧b<w.heap.size∧rs.length≤maxLen∧∀ i,i<rs.length→ObC w b (off+i*7) (rs.getD i Ob.none)
theorem nR.later {w w':World} {v:Value} {rs:List Ob} (h:nR w v rs) (hb:Bel w w'):nR w' v rs:=by
 rcases h with h|⟨b,off,cap,rfl,h1,h2,h3⟩
 ·exact Or.inl h
 ·exact Or.inr ⟨b,off,cap,rfl,lo h1 hb.size,h2,fun i hi=>(h3 i hi).later hb h1⟩
def Ob.small (r:Ob):Prop:=r.values.length≤1048576∧r.holds.length≤1048576
def i6 (w:World) (B o:Nat) (r:Ob):Prop:=
 ∃ b1 b2,(B<b1∧B<b2)∧w.cell? ⟨B,o,none⟩=some (.string r.kind)∧w.cell? ⟨B,o+1,none⟩=some (.string r.name)∧w.cell? ⟨B,o+2,none⟩=some (.string r.team)∧w.cell? ⟨B,o+3,none⟩=some (.slice (some ⟨b1,0,none⟩) r.values.length r.values.length)∧w.cell? ⟨B,o+4,none⟩=some (.bool r.ending)∧w.cell? ⟨B,o+5,none⟩=some (.slice (some ⟨b2,0,none⟩) r.holds.length r.holds.length)∧w.cell? ⟨B,o+6,none⟩=some (.int .i64 r.version)∧kV w b1 b2 r
theorem i6.later {w w':World} {b o:Nat} {r:Ob} (h:i6 w b o r) (hb:Bel w w') (av:b<w.heap.size):i6 w' b o r:=by
 obtain⟨b1,b2,h0,c0,c1,c2,c3,c4,c5,c6,hn⟩:=h;have q:∀ j,w'.cell? ⟨b,j,none⟩=w.cell? ⟨b,j,none⟩:=fun j=>hb.cell (p:=⟨b,j,none⟩) av;exact⟨b1,b2,h0,(q _).trans c0,(q _).trans c1,(q _).trans c2,(q _).trans c3,(q _).trans c4,(q _).trans c5,(q _).trans c6,hn.later hb⟩
structure fX (w:World) (B:Nat) (rs:List Ob):Prop where
 lt:B<w.heap.size
 len:rs.length≤1048576
 at_:∀ i,i<rs.length→i6 w B (i*7) (rs.getD i Ob.none)
 own:ai w B 111 (rs.length*7)
theorem fX.later {w w':World} {B:Nat} {rs:List Ob} (h:fX w B rs) (hb:Bel w w'):fX w' B rs:=
 ⟨lo h.lt hb.size,h.len,fun i hi=>(h.at_ i hi).later hb h.lt,h.own.later hb⟩
theorem i6.aI {w:World} {B o:Nat} {r:Ob} (h:i6 w B o r) (o':Nat) (vs:List Value) (ho:o+7≤o'):i6 (aI w B o' 0 vs) B o r:=by
 obtain⟨b1,b2,h0,c0,c1,c2,c3,c4,c5,c6,hn⟩:=h;have c:∀ j,j<o'→(YtbiokpmdghmgcaaGreat.aI w B o' 0 vs).cell? ⟨B,j,none⟩=w.cell? ⟨B,j,none⟩:=fun j hj=>bt B o' B j vs w 0 (by omega);exact⟨b1,b2,h0,(c _ (by omega)).trans c0,(c _ (by omega)).trans c1,(c _ (by omega)).trans c2,(c _ (by omega)).trans c3,(c _ (by omega)).trans c4,(c _ (by omega)).trans c5,(c _ (by omega)).trans c6,hn.l7 h0.1 h0.2 o' vs⟩
theorem i6.sc {w:World} {B o p:Nat} {r:Ob} (h:i6 w B o r) (hp:p<B) (j:Nat) (v:Value):i6 (w.setCell ⟨p,j,none⟩ v) B o r:=by
 obtain⟨b1,b2,h0,c0,c1,c2,c3,c4,c5,c6,hn⟩:=h;have c:∀ q,(w.setCell ⟨p,j,none⟩ v).cell? ⟨B,q,none⟩=w.cell? ⟨B,q,none⟩:=fun q=>aF _ _ _ _ _ _ (by omega);have h0:=(show p<b1∧p<b2 by omega)
 exact⟨b1,b2,by omega,(c _).trans c0,(c _).trans c1,(c _).trans c2,(c _).trans c3,(c _).trans c4,(c _).trans c5,(c _).trans c6,hn.l7 h0.1 h0.2 j [v]⟩
theorem fX.sc {w:World} {B p:Nat} {rs:List Ob} (h:fX w B rs) (hp:p<B) (j:Nat) (v:Value):fX (w.setCell ⟨p,j,none⟩ v) B rs:=
 ⟨by rw[bg];exact h.lt,h.len,fun i hi=>(h.at_ i hi).sc hp j v,h.own.bk (by omega) _ _⟩
theorem vg {w:World} {B:Nat} {t:TypeId} {n:Nat} (hO:ai w B t n) (o:Nat) (ho:o+7≤n) (r:Ob) (b1 b2:Nat) (h0:B<b1∧B<b2) (hn:kV w b1 b2 r):
  i6 (aI w B o 0 [.string r.kind,.string r.name,.string r.team,.slice (some ⟨b1,0,none⟩) r.values.length r.values.length,.bool r.ending,.slice (some ⟨b2,0,none⟩) r.holds.length r.holds.length,.int .i64 r.version]) B o r:=by
 have c:=fun i hi=>cB o [.string r.kind,.string r.name,.string r.team,.slice (some ⟨b1,0,none⟩) r.values.length r.values.length,.bool r.ending,.slice (some ⟨b2,0,none⟩) r.holds.length r.holds.length,.int .i64 r.version] w 0 hO (by simp;omega) i hi;exact⟨b1,b2,h0,c 0 (by simp),c 1 (by simp),c 2 (by simp),c 3 (by simp),c 4 (by simp),c 5 (by simp),c 6 (by simp),hn.l7 h0.1 h0.2 o _⟩
theorem Tryz.DK:(Tryz.prog.info? 111).map (fun i=>(i.zero,i.size,i.bytes))=some (some (.agg #[.string ByteArray.empty,.string ByteArray.empty,.string ByteArray.empty,.slice none 0 0,.bool false,.slice none 0 0,.int .i64 0]),7,112):=by kernel_rfl
theorem wQ (n:Nat) (h:n≤1048576):∃ cs:Array Value,cs.size=n*7∧∀ W:World,
  (Instr.makeSlice 42 (.int .i64 (n:Int)) (.int .i64 (n:Int))).run Tryz.prog W=.ok (.slice (some ⟨W.heap.size,0,none⟩) n n) (W.alloc (.cells cs 111)):=by
 obtain⟨i,hi,lP⟩:=Option.map_eq_some_iff.1 Tryz.DK;simp only[Prod.mk.injEq]at lP;obtain⟨hz,hs,hb⟩:=lP;refine⟨madeCells (Value.cells (.agg #[.string ByteArray.empty,.string ByteArray.empty,.string ByteArray.empty,.slice none 0 0,.bool false,.slice none 0 0,.int .i64 0])) (n*7),size_madeCells _ _,fun W=> ?_⟩;have hr:=run_make (P:=Tryz.prog) W 42 111 i _ Tryz.underlying42 hi hz .i64 .i64 n n (by omega) (Int.le_refl _) (by rw[hb];omega) (by omega);simp only[Int.toNat_natCast,hs]at hr;exact hr
theorem yj (b off cap:Nat) (rs:List Ob) (w:World) (hl:rs.length≤1048576) (dQ:∀ r∈rs,r.small) (hb:b<w.heap.size)
  (hc:∀ i,i<rs.length→ObC w b (off+i*7) (rs.getD i Ob.none)):
  Calls Tryz.prog 32 #[.slice (some ⟨b,off,none⟩) rs.length cap] w fun e w'=>e=.returned (.slice (some ⟨w.heap.size,0,none⟩) rs.length rs.length)∧Bel w w'∧ai w' w.heap.size 111 (rs.length*7)∧
   ∀ i,i<rs.length→i6 w' w.heap.size (i*7) (rs.getD i Ob.none):=by
 obtain⟨cs,bP,iL⟩:=wQ rs.length hl;have HC:Hid (∀ i,i<rs.length→ObC w b (off+i*7) (rs.getD i Ob.none)∧(rs.getD i Ob.none).small):=by
  intro i hi;refine⟨hc i hi, ?_⟩;have e:rs.getD i Ob.none=rs[i]:=by simp[hi]
  rw[e];exact dQ _ (List.getElem_mem hi)
 clear hc dQ;go_enter Tryz.func32,Tryz.ntmps32
 go_wp2;go_loopw [4] (fun i wr=>∃ k:Nat,k≤rs.length∧i=.int .i64 k∧Bel w wr∧ai wr w.heap.size 111 (rs.length*7)∧∀ i,i<k→i6 wr w.heap.size (i*7) (rs.getD i Ob.none)) (fun i _=>rs.length - (intOf i).toNat)
 case atStart=>exact⟨0,nz,rfl,ab br _,ai.alloc w cs 111 _ bP,fun i hi=>absurd hi (Nat.not_lt_zero i)⟩
 case round=>
  obtain⟨k,hk,rfl,hB,hO,aw⟩:=hrel;have HA:=hid aw;have HO:=hid hO;clear aw iL bP hO;by_cases av:k<rs.length
  ·have hf:=(HC.out k av).1.later hB hb;obtain⟨r,hm⟩:∃ r,r=rs.getD k Ob.none:=⟨_,rfl⟩
   rw[← hm]at hf;obtain⟨v1,v2,c0,c1,c2,c3,c4,c5,c6,hn⟩:=hf;have HX:Hid ((yo wr v1 v2 r)∧r=rs.getD k Ob.none∧r.small):=⟨hn,hm,by rw[hm];exact(HC.out k av).2⟩
   clear hm hn;go_wp2_with fail
   refine(IZ r v1 v2 wr HX.out.2.2.1 HX.out.2.2.2 HX.out.1.t1 HX.out.1.t2).mono ?_;rintro e w2 ⟨⟨b1,b2,rfl,EV,_,_,hle,qJ⟩,aA⟩;have bE:=aa hB aA;have eK:=HO.out.later aA;have HP:Hid (∀ v,v=[.string r.kind,.string r.name,.string r.team,.slice (some ⟨b1,0,none⟩) r.values.length r.values.length,.bool r.ending,.slice (some ⟨b2,0,none⟩) r.holds.length r.holds.length,.int .i64 r.version]→
     Bel w (aI w2 w.heap.size (k*7) 0 v)∧ai (aI w2 w.heap.size (k*7) 0 v) w.heap.size 111 (rs.length*7)∧∀ i,i<k+1→i6 (aI w2 w.heap.size (k*7) 0 v) w.heap.size (i*7) (rs.getD i Ob.none)):=by
    intro v hv;subst hv;refine⟨aY (a:=w) _ nr _ _ _ bE,fM _ _ _ _ eK,fun i hi=> ?_⟩;by_cases hik:i<k
    ·exact((HA.out i hik).later aA HO.out.lt).aI (k*7) _ (by omega)
    ·obtain rfl:i=k:=by omega
     rw[← HX.out.2.1];exact vg eK (i*7) (by omega) r b1 b2 ⟨lo HO.out.lt hle,Nat.lt_trans (lo HO.out.lt hle) qJ⟩ ⟨EV,HX.out.1.t1.sizes,HX.out.1.t2.sizes,HX.out.1.sized⟩
   clear c0 c1 c2 c3 c4 c5 c6 HX EV hle qJ;have ij:=eK.frozen;obtain⟨v0,o0⟩:=eK.cell (k*7) (by omega);obtain⟨v1,o1⟩:=eK.cell (k*7+1) (by omega);obtain⟨v2,o2⟩:=eK.cell (k*7+2) (by omega);obtain⟨v3,o3⟩:=eK.cell (k*7+3) (by omega);obtain⟨v4,o4⟩:=eK.cell (k*7+4) (by omega);obtain⟨v5,o5⟩:=eK.cell (k*7+5) (by omega);obtain⟨v6,o6⟩:=eK.cell (k*7+6) (by omega);clear eK bE aA;go_wp2;go_roundw
   case rel=>exact⟨k+1,by omega,by go_num,(HP.out _ rfl).1,(HP.out _ rfl).2.1,(HP.out _ rfl).2.2⟩
   case measure=>simp[intOf];omega
  ·obtain rfl:k=rs.length:=by omega
   go_wp2;go_ret;exact⟨rfl,hB,HO.out,HA.out⟩
theorem xV (a:Option Addr) (cap:Nat) (w:World):
  Calls Tryz.prog 32 #[.slice a 0 cap] w fun e w'=>e=.returned (.slice (some ⟨w.heap.size,0,none⟩) 0 0)∧∃ cs:Array Value,cs.size=0∧w'=w.alloc (.cells cs 111):=by
 obtain⟨cs,rB,iJ⟩:=wQ 0 (by omega);have iL:∀ W:World,(Instr.makeSlice 42 (.int .i64 0) (.int .i64 0)).run Tryz.prog W=.ok (.slice (some ⟨W.heap.size,0,none⟩) 0 0) (W.alloc (.cells cs 111)):=iJ;clear iJ;go_enter Tryz.func32,Tryz.ntmps32
 go_wp2;refine wp_loop_rounds 1 ?_;rw[rounds_succ];go_wp2;go_ret;exact⟨rfl,_,by omega,rfl⟩
theorem IL (v:Value) (rs:List Ob) (w:World) (hl:rs.length≤1048576) (dQ:∀ r∈rs,r.small) (h:nR w v rs):
  Calls Tryz.prog 32 #[v] w fun e w'=>e=.returned (.slice (some ⟨w.heap.size,0,none⟩) rs.length rs.length)∧Bel w w'∧fX w' w.heap.size rs:=by
 rcases h with⟨a,cap,rfl,rfl⟩|⟨b,off,cap,rfl,hb,_,hc⟩
 ·refine(xV a cap w).mono ?_;rintro e w' ⟨rfl,cs,bP,rfl⟩;exact⟨rfl,ab br _,⟨by simp,by simp,fun i hi=>absurd hi (Nat.not_lt_zero i),ai.alloc w cs _ _ (by simpa using bP)⟩⟩
 ·refine(yj b off cap rs w hl dQ hb hc).mono ?_;rintro e w' ⟨rfl,h1,h2,h3⟩;exact⟨rfl,h1,h2.lt,hl,h3,h2⟩
theorem IT (B B':Nat) (rs:List Ob) (w:World) (h:fX w B rs) (h':fX w B' rs):
  Calls Tryz.prog 46 #[.slice (some ⟨B,0,none⟩) rs.length rs.length,.slice (some ⟨B',0,none⟩) rs.length rs.length] w fun e w'=>e=.returned (.bool true)∧Bel w w':=by
 have hl:=h.len;have HH:=hid (And.intro h h');clear h h';go_enter Tryz.func46,Tryz.ntmps46
 go_wp2;go_loopw [5] (fun i wr=>∃ k:Nat,k≤rs.length∧i=.int .i64 k∧Bel w wr) (fun i _=>rs.length - (intOf i).toNat)
 case atStart=>exact⟨0,nz,rfl,br⟩
 case round=>
  obtain⟨k,hk,rfl,hW⟩:=hrel;by_cases av:k<rs.length
  ·have q:=(HH.out.1.later hW).at_ k av;have q':=(HH.out.2.later hW).at_ k av;obtain⟨r,hm⟩:∃ r,r=rs.getD k Ob.none:=⟨_,rfl⟩
   rw[← hm]at q q';obtain⟨b1,b2,_,c0,c1,c2,c3,c4,c5,c6,hn⟩:=q;obtain⟨b1',b2',_,d0,d1,d2,d3,d4,d5,d6,zl⟩:=q';have HX:=hid fun (W:World) (hW:Bel wr W)=>Ir r b1 b2 b1' b2' W (hn.later hW) (zl.later hW);clear hm hn zl;go_wp2_with fail
   go_region_with (go_at_call 101;refine(HX.out _ ?_).mono ?_;(repeat(first|exact br|refine Below.drew ?_));rintro e w2 ⟨rfl,aA⟩)
   all_goals
    go_wp2;go_roundw
    case rel=>
     refine⟨k+1,by omega,by go_num, ?_⟩;repeat(first|exact aa hW aA|exact aa hW.drew aA|exact aa hW.drew.drew aA|refine Below.drew ?_)
    case measure=>simp[intOf];omega
  ·go_wp2;go_ret;exact⟨rfl,hW⟩
theorem oH {rs:List Ob} {k:Nat} (h:∀ r∈rs.take k,r.small) (hk:k<rs.length) (hs:(rs.getD k Ob.none).small):∀ r∈rs.take (k+1),r.small:=by
 have e:rs.getD k Ob.none=rs[k]:=by simp[hk]
 rw[e]at hs;intro r hr;rw[List.take_succ_eq_append_getElem hk,List.mem_append,List.mem_singleton]at hr;rcases hr with hr|rfl
 ·exact h r hr
 ·exact hs
theorem xD (b off cap:Nat) (rs:List Ob) (left:Int) (w:World) (h0:0≤left) (h1:left≤1048576) (hb:b<w.heap.size) (hl:rs.length≤maxLen)
  (hc:∀ i,i<rs.length→ObC w b (off+i*7) (rs.getD i Ob.none)):
  Calls Tryz.prog 20 #[.slice (some ⟨b,off,none⟩) rs.length cap,.int .i64 left] w fun e w'=>(∃ x:Int,e=.returned (.int .i64 x)∧szP ((rs.length:Int)≤left∧∀ r∈rs,r.small) left x)∧Bel w w':=by
 unfold maxLen at hl;have HC:=hid hc;obtain⟨P,hP⟩:∃ P:Prop,P=((rs.length:Int)≤left∧∀ r∈rs,r.small):=⟨_,rfl⟩
 have HP:=hid hP;rw[← hP];clear hc hP;by_cases hneg:left<(rs.length:Int)
 ·go_enter Tryz.func20,Tryz.ntmps20
  go_wp2;go_ret;exact⟨⟨_,rfl,by unfold szP;refine⟨by omega,by omega,fun h=>by omega⟩⟩,br⟩
 ·go_enter Tryz.func20,Tryz.ntmps20
  go_wp2;go_loopw [1,5] (fun l i wr=>∃ (k:Nat) (x:Int),k≤rs.length∧i=.int .i64 k∧l=.int .i64 x∧0≤x∧x≤left∧(∀ r∈rs.take k,r.small)∧Bel w wr) (fun _ i _=>rs.length - (intOf i).toNat)
  case atStart=>exact⟨0,_,nz,rfl,rfl,by omega,by omega,fun r hr=>by simp at hr,br⟩
  case round=>
   obtain⟨k,x,hk,rfl,rfl,x0,x1,dQ,hB⟩:=hrel;have HS:=hid dQ;clear dQ;by_cases av:k<rs.length
   ·have hf:=(HC.out k av).later hB hb;obtain⟨r,hm⟩:∃ r,r=rs.getD k Ob.none:=⟨_,rfl⟩
    rw[← hm]at hf;obtain⟨v1,v2,c0,c1,c2,c3,c4,c5,c6,hn⟩:=hf;have HM:=hid (And.intro hm hn);clear hm hn;go_wp2_with fail
    refine(IX r v1 v2 x wr x0 (by omega) HM.out.2).mono ?_;rintro e w2 ⟨⟨x',rfl,hx⟩,aA⟩;have HX:=hid hx;have q1:=hx.1;have q2:=hx.2.1;have bE:=aa hB aA;clear aA c0 c1 c2 c3 c4 c5 c6 hx;by_cases c2:x'<0
    ·go_wp2;go_ret;exact⟨⟨_,rfl,by unfold szP;exact⟨by omega,by omega,fun h=>by omega⟩⟩,bE⟩
    ·have HN:=hid (oH HS.out av (by rw[← HM.out.1];exact HX.out.2.2 (by omega)));go_wp2;go_roundw
     case rel=>exact⟨k+1,_,by omega,by go_num,rfl,by omega,by omega,HN.out,bE⟩
     case measure=>simp[intOf];omega
   ·have HQ:Hid P:=by
     show P;rw[HP.out];have:=HS.out;rw[List.take_of_length_le (by omega)]at this;exact⟨by omega,this⟩
    go_wp2;go_ret;exact⟨⟨_,rfl,by unfold szP;exact⟨by omega,by omega,fun _=>HQ.out⟩⟩,hB⟩
theorem xx (a:Option Addr) (cap:Nat) (left:Int) (w:World) (h0:0≤left) (h1:left≤1048576):
  Calls Tryz.prog 20 #[.slice a 0 cap,.int .i64 left] w fun e w'=>e=.returned (.int .i64 left)∧w=w':=by
 go_enter Tryz.func20,Tryz.ntmps20
 go_wp2;refine wp_loop_rounds 1 ?_;rw[rounds_succ];go_wp2;go_ret;exact⟨Pl.aP (by omega),rfl⟩
theorem It (v:Value) (rs:List Ob) (left:Int) (w:World) (h0:0≤left) (h1:left≤1048576) (h:nR w v rs):
  Calls Tryz.prog 20 #[v,.int .i64 left] w fun e w'=>(∃ x:Int,e=.returned (.int .i64 x)∧szP ((rs.length:Int)≤left∧∀ r∈rs,r.small) left x)∧Bel w w':=by
 rcases h with⟨a,cap,rfl,rfl⟩|⟨b,off,cap,rfl,hb,hl,hc⟩
 ·refine(xx a cap left w h0 h1).mono ?_;rintro e w' ⟨rfl,rfl⟩;exact⟨⟨_,rfl,by unfold szP;exact⟨by omega,by omega,fun _=>⟨by simpa using h0,fun r hr=>by simp at hr⟩⟩⟩,br⟩
 ·exact xD b off cap rs left w h0 h1 hb hl hc
structure Ps where
 door:ByteArray
 team:ByteArray
 res:ByteArray
 amount:Int
 til:Int
def Ps.none:Ps:=⟨ByteArray.empty,ByteArray.empty,ByteArray.empty,0,0⟩
def Ps.sized (m:Ps):Prop:=m.door.size≤maxLen∧m.team.size≤maxLen∧m.res.size≤maxLen
structure lf (w:World) (b o:Nat) (m:Ps):Prop where
 c0:w.cell? ⟨b,o,none⟩=some (.string m.door)
 c1:w.cell? ⟨b,o+1,none⟩=some (.string m.team)
 c2:w.cell? ⟨b,o+2,none⟩=some (.string m.res)
 c3:w.cell? ⟨b,o+3,none⟩=some (.int .i64 m.amount)
 c4:w.cell? ⟨b,o+4,none⟩=some (.int .i64 m.til)
 sized:m.sized
theorem lf.later {w w':World} {b o:Nat} {m:Ps} (h:lf w b o m) (hb:Bel w w') (av:b<w.heap.size):lf w' b o m:=by
 have c:∀ j,w'.cell? ⟨b,j,none⟩=w.cell? ⟨b,j,none⟩:=fun j=>hb.cell (p:=⟨b,j,none⟩) av;exact⟨(c _).trans h.c0,(c _).trans h.c1,(c _).trans h.c2,(c _).trans h.c3,(c _).trans h.c4,h.sized⟩
def oW (w:World) (v:Value) (ms:List Ps):Prop:=
 (∃ a cap,v=.slice a 0 cap∧ms=[])∨∃ b off cap,v=.slice (some ⟨b,off,none⟩) ms.length cap∧b<w.heap.size∧ms.length≤maxLen∧∀ i,i<ms.length→lf w b (off+i*5) (ms.getD i Ps.none)
theorem oW.later {w w':World} {v:Value} {ms:List Ps} (h:oW w v ms) (hb:Bel w w'):oW w' v ms:=by
 rcases h with h|⟨b,off,cap,rfl,h1,h2,h3⟩
 ·exact Or.inl h
 ·exact Or.inr ⟨b,off,cap,rfl,lo h1 hb.size,h2,fun i hi=>(h3 i hi).later hb h1⟩
structure iW (w:World) (B:Nat) (ms:List Ps):Prop where
 lt:B<w.heap.size
 len:ms.length≤1048576
 at_:∀ i,i<ms.length→lf w B (i*5) (ms.getD i Ps.none)
 own:ai w B 129 (ms.length*5)
theorem iW.later {w w':World} {B:Nat} {ms:List Ps} (h:iW w B ms) (hb:Bel w w'):iW w' B ms:=
 ⟨lo h.lt hb.size,h.len,fun i hi=>(h.at_ i hi).later hb h.lt,h.own.later hb⟩
theorem iW.sc {w:World} {B p:Nat} {ms:List Ps} (h:iW w B ms) (hp:p<B) (j:Nat) (v:Value):iW (w.setCell ⟨p,j,none⟩ v) B ms:=by
 have c:∀ q,(w.setCell ⟨p,j,none⟩ v).cell? ⟨B,q,none⟩=w.cell? ⟨B,q,none⟩:=fun q=>aF _ _ _ _ _ _ (by omega);exact⟨by rw[bg];exact h.lt,h.len,fun i hi=>by have h:=h.at_ i hi;exact⟨(c _).trans h.c0,(c _).trans h.c1,(c _).trans h.c2,(c _).trans h.c3,(c _).trans h.c4,h.sized⟩,h.own.bk (by omega) _ _⟩
theorem lf.aI {w:World} {B o:Nat} {m:Ps} (h:lf w B o m) (o':Nat) (vs:List Value) (ho:o+5≤o'):lf (aI w B o' 0 vs) B o m:=by
 have c:∀ j,j<o'→(YtbiokpmdghmgcaaGreat.aI w B o' 0 vs).cell? ⟨B,j,none⟩=w.cell? ⟨B,j,none⟩:=fun j hj=>bt B o' B j vs w 0 (by omega);exact⟨(c _ (by omega)).trans h.c0,(c _ (by omega)).trans h.c1,(c _ (by omega)).trans h.c2,(c _ (by omega)).trans h.c3,(c _ (by omega)).trans h.c4,h.sized⟩
theorem uP {w:World} {B:Nat} {t:TypeId} {n:Nat} (hO:ai w B t n) (o:Nat) (ho:o+5≤n) (m:Ps) (hs:m.sized):
  lf (aI w B o 0 [.string m.door,.string m.team,.string m.res,.int .i64 m.amount,.int .i64 m.til]) B o m:=by
 have c:=fun i hi=>cB o [.string m.door,.string m.team,.string m.res,.int .i64 m.amount,.int .i64 m.til] w 0 hO (by simp;omega) i hi;exact⟨c 0 (by simp),c 1 (by simp),c 2 (by simp),c 3 (by simp),c 4 (by simp),hs⟩
theorem Tryz.CX:(Tryz.prog.info? 129).map (fun i=>(i.zero,i.size,i.bytes))=some (some (.agg #[.string ByteArray.empty,.string ByteArray.empty,.string ByteArray.empty,.int .i64 0,.int .i64 0]),5,64):=by kernel_rfl
theorem vQ (n:Nat) (h:n≤1048576):∃ cs:Array Value,cs.size=n*5∧∀ W:World,
  (Instr.makeSlice 45 (.int .i64 (n:Int)) (.int .i64 (n:Int))).run Tryz.prog W=.ok (.slice (some ⟨W.heap.size,0,none⟩) n n) (W.alloc (.cells cs 129)):=by
 obtain⟨i,hi,lP⟩:=Option.map_eq_some_iff.1 Tryz.CX;simp only[Prod.mk.injEq]at lP;obtain⟨hz,hs,hb⟩:=lP;refine⟨madeCells (Value.agg #[.string ByteArray.empty,.string ByteArray.empty,.string ByteArray.empty,.int .i64 0,.int .i64 0]).cells (n*5),size_madeCells _ _,fun W=> ?_⟩;have hr:=run_make (P:=Tryz.prog) W 45 129 i _ Tryz.underlying45 hi hz .i64 .i64 n n (by omega) (Int.le_refl _) (by rw[hb];omega) (by omega);simp only[Int.toNat_natCast,hs]at hr;exact hr
theorem Lv (m:Ps) (w:World):
  Calls Tryz.prog 80 #[.agg #[.string m.door,.string m.team,.string m.res,.int .i64 m.amount,.int .i64 m.til]] w fun e w'=>e=.returned (.agg #[.string m.door,.string m.team,.string m.res,.int .i64 m.amount,.int .i64 m.til])∧Bel w w':=by
 go_enter Tryz.func80,Tryz.ntmps80
 go_wp2;refine bodyPost_ret (v:=.agg #[.string m.door,.string m.team,.string m.res,.int .i64 m.amount,.int .i64 m.til]) (by simp[results,Tryz.results80,go_sem]) rfl ⟨rfl, ?_⟩;repeat(first|exact br|refine ab ?_ _|refine Below.setCell ?_ (by simp) _)
theorem yt (b off cap:Nat) (ms:List Ps) (w:World) (hl:ms.length≤1048576) (hb:b<w.heap.size)
  (hc:∀ i,i<ms.length→lf w b (off+i*5) (ms.getD i Ps.none)):
  Calls Tryz.prog 35 #[.slice (some ⟨b,off,none⟩) ms.length cap] w fun e w'=>e=.returned (.slice (some ⟨w.heap.size,0,none⟩) ms.length ms.length)∧Bel w w'∧ai w' w.heap.size 129 (ms.length*5)∧
   ∀ i,i<ms.length→lf w' w.heap.size (i*5) (ms.getD i Ps.none):=by
 obtain⟨cs,bP,iL⟩:=vQ ms.length hl;go_enter Tryz.func35,Tryz.ntmps35
 go_wp2;go_loopw [4] (fun i wr=>∃ k:Nat,k≤ms.length∧i=.int .i64 k∧Bel w wr∧ai wr w.heap.size 129 (ms.length*5)∧∀ i,i<k→lf wr w.heap.size (i*5) (ms.getD i Ps.none)) (fun i _=>ms.length - (intOf i).toNat)
 case atStart=>exact⟨0,nz,rfl,ab br _,ai.alloc w cs 129 _ bP,fun i hi=>absurd hi (Nat.not_lt_zero i)⟩
 case round=>
  obtain⟨k,hk,rfl,hB,hO,aw⟩:=hrel;have HA:=hid aw;have HO:=hid hO;clear aw iL bP hO;by_cases av:k<ms.length
  ·have hf:=(hc k av).later hB hb;obtain⟨m,hm⟩:∃ m,m=ms.getD k Ps.none:=⟨_,rfl⟩
   rw[← hm]at hf;have HX:=hid (And.intro hf.sized hm);obtain⟨c0,c1,c2,c3,c4,_⟩:=hf;clear hm hc;go_wp2_with fail
   refine(Lv m wr).mono ?_;rintro e w2 ⟨rfl,aA⟩;have bE:=aa hB aA;have eK:=HO.out.later aA;have HP:Hid (∀ v,v=[.string m.door,.string m.team,.string m.res,.int .i64 m.amount,.int .i64 m.til]→
     Bel w (aI w2 w.heap.size (k*5) 0 v)∧ai (aI w2 w.heap.size (k*5) 0 v) w.heap.size 129 (ms.length*5)∧∀ i,i<k+1→lf (aI w2 w.heap.size (k*5) 0 v) w.heap.size (i*5) (ms.getD i Ps.none)):=by
    intro v hv;subst hv;refine⟨aY (a:=w) _ nr _ _ _ bE,fM _ _ _ _ eK,fun i hi=> ?_⟩;by_cases hik:i<k
    ·exact((HA.out i hik).later aA HO.out.lt).aI (k*5) _ (by omega)
    ·obtain rfl:i=k:=by omega
     rw[← HX.out.2];exact uP eK (i*5) (by omega) m HX.out.1
   clear c0 c1 c2 c3 c4 HX;have ij:=eK.frozen;obtain⟨v0,o0⟩:=eK.cell (k*5) (by omega);obtain⟨v1,o1⟩:=eK.cell (k*5+1) (by omega);obtain⟨v2,o2⟩:=eK.cell (k*5+2) (by omega);obtain⟨v3,o3⟩:=eK.cell (k*5+3) (by omega);obtain⟨v4,o4⟩:=eK.cell (k*5+4) (by omega);clear eK bE aA;go_wp2;go_roundw
   case rel=>exact⟨k+1,by omega,by go_num,(HP.out _ rfl).1,(HP.out _ rfl).2.1,(HP.out _ rfl).2.2⟩
   case measure=>simp[intOf];omega
  ·obtain rfl:k=ms.length:=by omega
   go_wp2;go_ret;exact⟨rfl,hB,HO.out,HA.out⟩
theorem xq (a:Option Addr) (cap:Nat) (w:World):
  Calls Tryz.prog 35 #[.slice a 0 cap] w fun e w'=>e=.returned (.slice (some ⟨w.heap.size,0,none⟩) 0 0)∧∃ cs:Array Value,cs.size=0∧w'=w.alloc (.cells cs 129):=by
 obtain⟨cs,rB,iJ⟩:=vQ 0 (by omega);have iL:∀ W:World,(Instr.makeSlice 45 (.int .i64 0) (.int .i64 0)).run Tryz.prog W=.ok (.slice (some ⟨W.heap.size,0,none⟩) 0 0) (W.alloc (.cells cs 129)):=iJ;clear iJ;go_enter Tryz.func35,Tryz.ntmps35
 go_wp2;refine wp_loop_rounds 1 ?_;rw[rounds_succ];go_wp2;go_ret;exact⟨rfl,_,by omega,rfl⟩
theorem ID (v:Value) (ms:List Ps) (w:World) (hl:ms.length≤1048576) (h:oW w v ms):
  Calls Tryz.prog 35 #[v] w fun e w'=>e=.returned (.slice (some ⟨w.heap.size,0,none⟩) ms.length ms.length)∧Bel w w'∧iW w' w.heap.size ms:=by
 rcases h with⟨a,cap,rfl,rfl⟩|⟨b,off,cap,rfl,hb,_,hc⟩
 ·refine(xq a cap w).mono ?_;rintro e w' ⟨rfl,cs,bP,rfl⟩;exact⟨rfl,ab br _,⟨by simp,by simp,fun i hi=>absurd hi (Nat.not_lt_zero i),ai.alloc w cs _ _ (by simpa using bP)⟩⟩
 ·refine(yt b off cap ms w hl hb hc).mono ?_;rintro e w' ⟨rfl,h1,h2,h3⟩;exact⟨rfl,h1,h2.lt,hl,h3,h2⟩
theorem LI (m:Ps) (w:World):
  Calls Tryz.prog 104 #[.agg #[.string m.door,.string m.team,.string m.res,.int .i64 m.amount,.int .i64 m.til],.agg #[.string m.door,.string m.team,.string m.res,.int .i64 m.amount,.int .i64 m.til]] w fun e w'=>e=.returned (.bool true)∧Bel w w':=by
 go_enter Tryz.func104,Tryz.ntmps104
 go_wp2;go_ret;exact⟨rfl,ab (ab br _) _⟩
theorem IU (B B':Nat) (ms:List Ps) (w:World) (h:iW w B ms) (h':iW w B' ms):
  Calls Tryz.prog 49 #[.slice (some ⟨B,0,none⟩) ms.length ms.length,.slice (some ⟨B',0,none⟩) ms.length ms.length] w fun e w'=>e=.returned (.bool true)∧Bel w w':=by
 have hl:=h.len;have HH:=hid (And.intro h h');clear h h';go_enter Tryz.func49,Tryz.ntmps49
 go_wp2;go_loopw [5] (fun i wr=>∃ k:Nat,k≤ms.length∧i=.int .i64 k∧Bel w wr) (fun i _=>ms.length - (intOf i).toNat)
 case atStart=>exact⟨0,nz,rfl,br⟩
 case round=>
  obtain⟨k,hk,rfl,hW⟩:=hrel;by_cases av:k<ms.length
  ·have q:=(HH.out.1.later hW).at_ k av;have q':=(HH.out.2.later hW).at_ k av;obtain⟨m,hm⟩:∃ m,m=ms.getD k Ps.none:=⟨_,rfl⟩
   rw[← hm]at q q';obtain⟨c0,c1,c2,c3,c4,_⟩:=q;obtain⟨d0,d1,d2,d3,d4,_⟩:=q';have HX:=hid fun (W:World) (_:Bel wr W)=>LI m W;clear hm;go_wp2_with fail
   go_region_with (go_at_call 104;refine(HX.out _ ?_).mono ?_;(repeat(first|exact br|refine Below.drew ?_));rintro e w2 ⟨rfl,aA⟩)
   all_goals
    go_wp2;go_roundw
    case rel=>
     refine⟨k+1,by omega,by go_num, ?_⟩;repeat(first|exact aa hW aA|exact aa hW.drew aA|exact aa hW.drew.drew aA|refine Below.drew ?_)
    case measure=>simp[intOf];omega
  ·go_wp2;go_ret;exact⟨rfl,hW⟩
theorem LD (m:Ps) (left:Int) (w:World) (h0:0≤left) (h1:left≤1048576) (hs:m.sized):
  Calls Tryz.prog 58 #[.agg #[.string m.door,.string m.team,.string m.res,.int .i64 m.amount,.int .i64 m.til],.int .i64 left] w fun e w'=>(∃ r:Int,e=.returned (.int .i64 r)∧ -1≤r∧r≤left)∧Bel w w':=by
 obtain⟨s0,s1,s2⟩:=hs;unfold maxLen at s0 s1 s2;by_cases c0:left<(m.door.size:Int)
 ·go_enter Tryz.func58,Tryz.ntmps58
  go_wp2;go_ret;exact⟨⟨_,rfl,by omega,by omega⟩,ab br _⟩
 by_cases c1:left - m.door.size<(m.team.size:Int)
 ·go_enter Tryz.func58,Tryz.ntmps58
  go_wp2;go_ret;exact⟨⟨_,rfl,by omega,by omega⟩,ab br _⟩
 by_cases c2:left - m.door.size - m.team.size<(m.res.size:Int)
 all_goals
  go_enter Tryz.func58,Tryz.ntmps58
  go_wp2;go_ret;exact⟨⟨_,rfl,by omega,by omega⟩,ab br _⟩
theorem yp (b off cap:Nat) (ms:List Ps) (left:Int) (w:World) (h0:0≤left) (h1:left≤1048576) (hb:b<w.heap.size) (hl:ms.length≤maxLen)
  (hc:∀ i,i<ms.length→lf w b (off+i*5) (ms.getD i Ps.none)):
  Calls Tryz.prog 23 #[.slice (some ⟨b,off,none⟩) ms.length cap,.int .i64 left] w fun e w'=>(∃ r:Int,e=.returned (.int .i64 r)∧szP ((ms.length:Int)≤left) left r)∧Bel w w':=by
 unfold maxLen at hl;by_cases hneg:left<(ms.length:Int)
 ·go_enter Tryz.func23,Tryz.ntmps23
  go_wp2;go_ret;exact⟨⟨_,rfl,by unfold szP;refine⟨by omega,by omega,by omega⟩⟩,br⟩
 ·go_enter Tryz.func23,Tryz.ntmps23
  go_wp2;go_loopw [1,5] (fun l i wr=>∃ (k:Nat) (r:Int),k≤ms.length∧i=.int .i64 k∧l=.int .i64 r∧0≤r∧r≤left∧Bel w wr) (fun _ i _=>ms.length - (intOf i).toNat)
  case atStart=>exact⟨0,_,nz,rfl,rfl,by omega,by omega,br⟩
  case round=>
   obtain⟨k,r,hk,rfl,rfl,r0,r1,hB⟩:=hrel;by_cases av:k<ms.length
   ·have hf:=(hc k av).later hB hb;obtain⟨m,hm⟩:∃ m,m=ms.getD k Ps.none:=⟨_,rfl⟩
    rw[← hm]at hf;have HX:Hid (Calls Tryz.prog 58 #[.agg #[.string m.door,.string m.team,.string m.res,.int .i64 m.amount,.int .i64 m.til],.int .i64 r] wr fun e w'=>(∃ r':Int,e=.returned (.int .i64 r')∧ -1≤r'∧r'≤r)∧Bel wr w'):=
     LD m r wr r0 (by omega) hf.sized
    obtain⟨c0,c1,c2,c3,c4,_⟩:=hf;clear hm hc;go_wp2_with fail
    refine HX.out.mono ?_;rintro e w2 ⟨⟨r',rfl,q1,q2⟩,aA⟩;have bE:=aa hB aA;clear aA c0 c1 c2 c3 c4 HX;by_cases c2:r'<0
    ·go_wp2;go_ret;exact⟨⟨_,rfl,by unfold szP;refine⟨by omega,by omega,by omega⟩⟩,bE⟩
    ·go_wp2;go_roundw
     case rel=>exact⟨k+1,_,by omega,by go_num,rfl,by omega,by omega,bE⟩
     case measure=>simp[intOf];omega
   ·go_wp2;go_ret;exact⟨⟨_,rfl,by unfold szP;exact⟨by omega,by omega,fun _=>by omega⟩⟩,hB⟩
theorem yG (a:Option Addr) (cap:Nat) (left:Int) (w:World) (h0:0≤left) (h1:left≤1048576):
  Calls Tryz.prog 23 #[.slice a 0 cap,.int .i64 left] w fun e w'=>e=.returned (.int .i64 left)∧w=w':=by
 go_enter Tryz.func23,Tryz.ntmps23
 go_wp2;refine wp_loop_rounds 1 ?_;rw[rounds_succ];go_wp2;go_ret;exact⟨Pl.aP (by omega),rfl⟩
theorem IM (v:Value) (ms:List Ps) (left:Int) (w:World) (h0:0≤left) (h1:left≤1048576) (h:oW w v ms):
  Calls Tryz.prog 23 #[v,.int .i64 left] w fun e w'=>(∃ r:Int,e=.returned (.int .i64 r)∧szP ((ms.length:Int)≤left) left r)∧Bel w w':=by
 rcases h with⟨a,cap,rfl,rfl⟩|⟨b,off,cap,rfl,hb,hl,hc⟩
 ·refine(yG a cap left w h0 h1).mono ?_;rintro e w' ⟨rfl,rfl⟩;exact⟨⟨_,rfl,by unfold szP;exact⟨by omega,by omega,fun _=>by simpa using h0⟩⟩,br⟩
 ·exact yp b off cap ms left w h0 h1 hb hl hc
structure Lg where
 team:ByteArray
 res:ByteArray
 most:Int
 free:Int
def Lg.none:Lg:=⟨ByteArray.empty,ByteArray.empty,0,0⟩
def Lg.sized (m:Lg):Prop:=m.team.size≤maxLen∧m.res.size≤maxLen
structure lr (w:World) (b o:Nat) (m:Lg):Prop where
 c0:w.cell? ⟨b,o,none⟩=some (.string m.team)
 c1:w.cell? ⟨b,o+1,none⟩=some (.string m.res)
 c2:w.cell? ⟨b,o+2,none⟩=some (.int .i64 m.most)
 c3:w.cell? ⟨b,o+3,none⟩=some (.int .i64 m.free)
 sized:m.sized
theorem lr.later {w w':World} {b o:Nat} {m:Lg} (h:lr w b o m) (hb:Bel w w') (av:b<w.heap.size):lr w' b o m:=by
 have c:∀ j,w'.cell? ⟨b,j,none⟩=w.cell? ⟨b,j,none⟩:=fun j=>hb.cell (p:=⟨b,j,none⟩) av;exact⟨(c _).trans h.c0,(c _).trans h.c1,(c _).trans h.c2,(c _).trans h.c3,h.sized⟩
def ox (w:World) (v:Value) (ms:List Lg):Prop:=
 (∃ a cap,v=.slice a 0 cap∧ms=[])∨∃ b off cap,v=.slice (some ⟨b,off,none⟩) ms.length cap∧b<w.heap.size∧ms.length≤maxLen∧∀ i,i<ms.length→lr w b (off+i*4) (ms.getD i Lg.none)
theorem ox.later {w w':World} {v:Value} {ms:List Lg} (h:ox w v ms) (hb:Bel w w'):ox w' v ms:=by
 rcases h with h|⟨b,off,cap,rfl,h1,h2,h3⟩
 ·exact Or.inl h
 ·exact Or.inr ⟨b,off,cap,rfl,lo h1 hb.size,h2,fun i hi=>(h3 i hi).later hb h1⟩
structure gV (w:World) (B:Nat) (ms:List Lg):Prop where
 lt:B<w.heap.size
 len:ms.length≤1048576
 at_:∀ i,i<ms.length→lr w B (i*4) (ms.getD i Lg.none)
 own:ai w B 131 (ms.length*4)
theorem gV.later {w w':World} {B:Nat} {ms:List Lg} (h:gV w B ms) (hb:Bel w w'):gV w' B ms:=
 ⟨lo h.lt hb.size,h.len,fun i hi=>(h.at_ i hi).later hb h.lt,h.own.later hb⟩
theorem gV.sc {w:World} {B p:Nat} {ms:List Lg} (h:gV w B ms) (hp:p<B) (j:Nat) (v:Value):gV (w.setCell ⟨p,j,none⟩ v) B ms:=by
 have c:∀ q,(w.setCell ⟨p,j,none⟩ v).cell? ⟨B,q,none⟩=w.cell? ⟨B,q,none⟩:=fun q=>aF _ _ _ _ _ _ (by omega);exact⟨by rw[bg];exact h.lt,h.len,fun i hi=>by have h:=h.at_ i hi;exact⟨(c _).trans h.c0,(c _).trans h.c1,(c _).trans h.c2,(c _).trans h.c3,h.sized⟩,h.own.bk (by omega) _ _⟩
theorem lr.aI {w:World} {B o:Nat} {m:Lg} (h:lr w B o m) (o':Nat) (vs:List Value) (ho:o+4≤o'):lr (aI w B o' 0 vs) B o m:=by
 have c:∀ j,j<o'→(YtbiokpmdghmgcaaGreat.aI w B o' 0 vs).cell? ⟨B,j,none⟩=w.cell? ⟨B,j,none⟩:=fun j hj=>bt B o' B j vs w 0 (by omega);exact⟨(c _ (by omega)).trans h.c0,(c _ (by omega)).trans h.c1,(c _ (by omega)).trans h.c2,(c _ (by omega)).trans h.c3,h.sized⟩
theorem uu {w:World} {B:Nat} {t:TypeId} {n:Nat} (hO:ai w B t n) (o:Nat) (ho:o+4≤n) (m:Lg) (hs:m.sized):
  lr (aI w B o 0 [.string m.team,.string m.res,.int .i64 m.most,.int .i64 m.free]) B o m:=by
 have c:=fun i hi=>cB o [.string m.team,.string m.res,.int .i64 m.most,.int .i64 m.free] w 0 hO (by simp;omega) i hi;exact⟨c 0 (by simp),c 1 (by simp),c 2 (by simp),c 3 (by simp),hs⟩
theorem Tryz.CK:(Tryz.prog.info? 131).map (fun i=>(i.zero,i.size,i.bytes))=some (some (.agg #[.string ByteArray.empty,.string ByteArray.empty,.int .i64 0,.int .i64 0]),4,48):=by kernel_rfl
theorem wF (n:Nat) (h:n≤1048576):∃ cs:Array Value,cs.size=n*4∧∀ W:World,
  (Instr.makeSlice 44 (.int .i64 (n:Int)) (.int .i64 (n:Int))).run Tryz.prog W=.ok (.slice (some ⟨W.heap.size,0,none⟩) n n) (W.alloc (.cells cs 131)):=by
 obtain⟨i,hi,lP⟩:=Option.map_eq_some_iff.1 Tryz.CK;simp only[Prod.mk.injEq]at lP;obtain⟨hz,hs,hb⟩:=lP;refine⟨madeCells (Value.agg #[.string ByteArray.empty,.string ByteArray.empty,.int .i64 0,.int .i64 0]).cells (n*4),size_madeCells _ _,fun W=> ?_⟩;have hr:=run_make (P:=Tryz.prog) W 44 131 i _ Tryz.underlying44 hi hz .i64 .i64 n n (by omega) (Int.le_refl _) (by rw[hb];omega) (by omega);simp only[Int.toNat_natCast,hs]at hr;exact hr
theorem Lu (m:Lg) (w:World):
  Calls Tryz.prog 79 #[.agg #[.string m.team,.string m.res,.int .i64 m.most,.int .i64 m.free]] w fun e w'=>e=.returned (.agg #[.string m.team,.string m.res,.int .i64 m.most,.int .i64 m.free])∧Bel w w':=by
 go_enter Tryz.func79,Tryz.ntmps79
 go_wp2;refine bodyPost_ret (v:=.agg #[.string m.team,.string m.res,.int .i64 m.most,.int .i64 m.free]) (by simp[results,Tryz.results79,go_sem]) rfl ⟨rfl, ?_⟩;repeat(first|exact br|refine ab ?_ _|refine Below.setCell ?_ (by simp) _)
theorem x8 (b off cap:Nat) (ms:List Lg) (w:World) (hl:ms.length≤1048576) (hb:b<w.heap.size)
  (hc:∀ i,i<ms.length→lr w b (off+i*4) (ms.getD i Lg.none)):
  Calls Tryz.prog 34 #[.slice (some ⟨b,off,none⟩) ms.length cap] w fun e w'=>e=.returned (.slice (some ⟨w.heap.size,0,none⟩) ms.length ms.length)∧Bel w w'∧ai w' w.heap.size 131 (ms.length*4)∧
   ∀ i,i<ms.length→lr w' w.heap.size (i*4) (ms.getD i Lg.none):=by
 obtain⟨cs,bP,iL⟩:=wF ms.length hl;go_enter Tryz.func34,Tryz.ntmps34
 go_wp2;go_loopw [4] (fun i wr=>∃ k:Nat,k≤ms.length∧i=.int .i64 k∧Bel w wr∧ai wr w.heap.size 131 (ms.length*4)∧∀ i,i<k→lr wr w.heap.size (i*4) (ms.getD i Lg.none)) (fun i _=>ms.length - (intOf i).toNat)
 case atStart=>exact⟨0,nz,rfl,ab br _,ai.alloc w cs 131 _ bP,fun i hi=>absurd hi (Nat.not_lt_zero i)⟩
 case round=>
  obtain⟨k,hk,rfl,hB,hO,aw⟩:=hrel;have HA:=hid aw;have HO:=hid hO;clear aw iL bP hO;by_cases av:k<ms.length
  ·have hf:=(hc k av).later hB hb;obtain⟨m,hm⟩:∃ m,m=ms.getD k Lg.none:=⟨_,rfl⟩
   rw[← hm]at hf;have HX:=hid (And.intro hf.sized hm);obtain⟨c0,c1,c2,c3,_⟩:=hf;clear hm hc;go_wp2_with fail
   refine(Lu m wr).mono ?_;rintro e w2 ⟨rfl,aA⟩;have bE:=aa hB aA;have eK:=HO.out.later aA;have HP:Hid (∀ v,v=[.string m.team,.string m.res,.int .i64 m.most,.int .i64 m.free]→
     Bel w (aI w2 w.heap.size (k*4) 0 v)∧ai (aI w2 w.heap.size (k*4) 0 v) w.heap.size 131 (ms.length*4)∧∀ i,i<k+1→lr (aI w2 w.heap.size (k*4) 0 v) w.heap.size (i*4) (ms.getD i Lg.none)):=by
    intro v hv;subst hv;refine⟨aY (a:=w) _ nr _ _ _ bE,fM _ _ _ _ eK,fun i hi=> ?_⟩;by_cases hik:i<k
    ·exact((HA.out i hik).later aA HO.out.lt).aI (k*4) _ (by omega)
    ·obtain rfl:i=k:=by omega
     rw[← HX.out.2];exact uu eK (i*4) (by omega) m HX.out.1
   clear c0 c1 c2 c3 HX;have ij:=eK.frozen;obtain⟨v0,o0⟩:=eK.cell (k*4) (by omega);obtain⟨v1,o1⟩:=eK.cell (k*4+1) (by omega);obtain⟨v2,o2⟩:=eK.cell (k*4+2) (by omega);obtain⟨v3,o3⟩:=eK.cell (k*4+3) (by omega);clear eK bE aA;go_wp2;go_roundw
   case rel=>exact⟨k+1,by omega,by go_num,(HP.out _ rfl).1,(HP.out _ rfl).2.1,(HP.out _ rfl).2.2⟩
   case measure=>simp[intOf];omega
  ·obtain rfl:k=ms.length:=by omega
   go_wp2;go_ret;exact⟨rfl,hB,HO.out,HA.out⟩
theorem xT (a:Option Addr) (cap:Nat) (w:World):
  Calls Tryz.prog 34 #[.slice a 0 cap] w fun e w'=>e=.returned (.slice (some ⟨w.heap.size,0,none⟩) 0 0)∧∃ cs:Array Value,cs.size=0∧w'=w.alloc (.cells cs 131):=by
 obtain⟨cs,rB,iJ⟩:=wF 0 (by omega);have iL:∀ W:World,(Instr.makeSlice 44 (.int .i64 0) (.int .i64 0)).run Tryz.prog W=.ok (.slice (some ⟨W.heap.size,0,none⟩) 0 0) (W.alloc (.cells cs 131)):=iJ;clear iJ;go_enter Tryz.func34,Tryz.ntmps34
 go_wp2;refine wp_loop_rounds 1 ?_;rw[rounds_succ];go_wp2;go_ret;exact⟨rfl,_,by omega,rfl⟩
theorem IH (v:Value) (ms:List Lg) (w:World) (hl:ms.length≤1048576) (h:ox w v ms):
  Calls Tryz.prog 34 #[v] w fun e w'=>e=.returned (.slice (some ⟨w.heap.size,0,none⟩) ms.length ms.length)∧Bel w w'∧gV w' w.heap.size ms:=by
 rcases h with⟨a,cap,rfl,rfl⟩|⟨b,off,cap,rfl,hb,_,hc⟩
 ·refine(xT a cap w).mono ?_;rintro e w' ⟨rfl,cs,bP,rfl⟩;exact⟨rfl,ab br _,⟨by simp,by simp,fun i hi=>absurd hi (Nat.not_lt_zero i),ai.alloc w cs _ _ (by simpa using bP)⟩⟩
 ·refine(x8 b off cap ms w hl hb hc).mono ?_;rintro e w' ⟨rfl,h1,h2,h3⟩;exact⟨rfl,h1,h2.lt,hl,h3,h2⟩
theorem Ly (m:Lg) (w:World):
  Calls Tryz.prog 103 #[.agg #[.string m.team,.string m.res,.int .i64 m.most,.int .i64 m.free],.agg #[.string m.team,.string m.res,.int .i64 m.most,.int .i64 m.free]] w fun e w'=>e=.returned (.bool true)∧Bel w w':=by
 go_enter Tryz.func103,Tryz.ntmps103
 go_wp2;go_ret;exact⟨rfl,ab (ab br _) _⟩
theorem IB (B B':Nat) (ms:List Lg) (w:World) (h:gV w B ms) (h':gV w B' ms):
  Calls Tryz.prog 48 #[.slice (some ⟨B,0,none⟩) ms.length ms.length,.slice (some ⟨B',0,none⟩) ms.length ms.length] w fun e w'=>e=.returned (.bool true)∧Bel w w':=by
 have hl:=h.len;have HH:=hid (And.intro h h');clear h h';go_enter Tryz.func48,Tryz.ntmps48
 go_wp2;go_loopw [5] (fun i wr=>∃ k:Nat,k≤ms.length∧i=.int .i64 k∧Bel w wr) (fun i _=>ms.length - (intOf i).toNat)
 case atStart=>exact⟨0,nz,rfl,br⟩
 case round=>
  obtain⟨k,hk,rfl,hW⟩:=hrel;by_cases av:k<ms.length
  ·have q:=(HH.out.1.later hW).at_ k av;have q':=(HH.out.2.later hW).at_ k av;obtain⟨m,hm⟩:∃ m,m=ms.getD k Lg.none:=⟨_,rfl⟩
   rw[← hm]at q q';obtain⟨c0,c1,c2,c3,_⟩:=q;obtain⟨d0,d1,d2,d3,_⟩:=q';have HX:=hid fun (W:World) (_:Bel wr W)=>Ly m W;clear hm;go_wp2_with fail
   go_region_with (go_at_call 103;refine(HX.out _ ?_).mono ?_;(repeat(first|exact br|refine Below.drew ?_));rintro e w2 ⟨rfl,aA⟩)
   all_goals
    go_wp2;go_roundw
    case rel=>
     refine⟨k+1,by omega,by go_num, ?_⟩;repeat(first|exact aa hW aA|exact aa hW.drew aA|exact aa hW.drew.drew aA|refine Below.drew ?_)
    case measure=>simp[intOf];omega
  ·go_wp2;go_ret;exact⟨rfl,hW⟩
theorem Ls (m:Lg) (left:Int) (w:World) (h0:0≤left) (h1:left≤1048576) (hs:m.sized):
  Calls Tryz.prog 57 #[.agg #[.string m.team,.string m.res,.int .i64 m.most,.int .i64 m.free],.int .i64 left] w fun e w'=>(∃ r:Int,e=.returned (.int .i64 r)∧ -1≤r∧r≤left)∧Bel w w':=by
 obtain⟨s0,s1⟩:=hs;unfold maxLen at s0 s1;by_cases c0:left<(m.team.size:Int)
 ·go_enter Tryz.func57,Tryz.ntmps57
  go_wp2;go_ret;exact⟨⟨_,rfl,by omega,by omega⟩,ab br _⟩
 by_cases c1:left - m.team.size<(m.res.size:Int)
 all_goals
  go_enter Tryz.func57,Tryz.ntmps57
  go_wp2;go_ret;exact⟨⟨_,rfl,by omega,by omega⟩,ab br _⟩
theorem xH (b off cap:Nat) (ms:List Lg) (left:Int) (w:World) (h0:0≤left) (h1:left≤1048576) (hb:b<w.heap.size) (hl:ms.length≤maxLen)
  (hc:∀ i,i<ms.length→lr w b (off+i*4) (ms.getD i Lg.none)):
  Calls Tryz.prog 22 #[.slice (some ⟨b,off,none⟩) ms.length cap,.int .i64 left] w fun e w'=>(∃ r:Int,e=.returned (.int .i64 r)∧szP ((ms.length:Int)≤left) left r)∧Bel w w':=by
 unfold maxLen at hl;by_cases hneg:left<(ms.length:Int)
 ·go_enter Tryz.func22,Tryz.ntmps22
  go_wp2;go_ret;exact⟨⟨_,rfl,by unfold szP;refine⟨by omega,by omega,by omega⟩⟩,br⟩
 ·go_enter Tryz.func22,Tryz.ntmps22
  go_wp2;go_loopw [1,5] (fun l i wr=>∃ (k:Nat) (r:Int),k≤ms.length∧i=.int .i64 k∧l=.int .i64 r∧0≤r∧r≤left∧Bel w wr) (fun _ i _=>ms.length - (intOf i).toNat)
  case atStart=>exact⟨0,_,nz,rfl,rfl,by omega,by omega,br⟩
  case round=>
   obtain⟨k,r,hk,rfl,rfl,r0,r1,hB⟩:=hrel;by_cases av:k<ms.length
   ·have hf:=(hc k av).later hB hb;obtain⟨m,hm⟩:∃ m,m=ms.getD k Lg.none:=⟨_,rfl⟩
    rw[← hm]at hf;have HX:Hid (Calls Tryz.prog 57 #[.agg #[.string m.team,.string m.res,.int .i64 m.most,.int .i64 m.free],.int .i64 r] wr fun e w'=>(∃ r':Int,e=.returned (.int .i64 r')∧ -1≤r'∧r'≤r)∧Bel wr w'):=
     Ls m r wr r0 (by omega) hf.sized
    obtain⟨c0,c1,c2,c3,_⟩:=hf;clear hm hc;go_wp2_with fail
    refine HX.out.mono ?_;rintro e w2 ⟨⟨r',rfl,q1,q2⟩,aA⟩;have bE:=aa hB aA;clear aA c0 c1 c2 c3 HX;by_cases c2:r'<0
    ·go_wp2;go_ret;exact⟨⟨_,rfl,by unfold szP;refine⟨by omega,by omega,by omega⟩⟩,bE⟩
    ·go_wp2;go_roundw
     case rel=>exact⟨k+1,_,by omega,by go_num,rfl,by omega,by omega,bE⟩
     case measure=>simp[intOf];omega
   ·go_wp2;go_ret;exact⟨⟨_,rfl,by unfold szP;exact⟨by omega,by omega,fun _=>by omega⟩⟩,hB⟩
theorem yw (a:Option Addr) (cap:Nat) (left:Int) (w:World) (h0:0≤left) (h1:left≤1048576):
  Calls Tryz.prog 22 #[.slice a 0 cap,.int .i64 left] w fun e w'=>e=.returned (.int .i64 left)∧w=w':=by
 go_enter Tryz.func22,Tryz.ntmps22
 go_wp2;refine wp_loop_rounds 1 ?_;rw[rounds_succ];go_wp2;go_ret;exact⟨Pl.aP (by omega),rfl⟩
theorem IV (v:Value) (ms:List Lg) (left:Int) (w:World) (h0:0≤left) (h1:left≤1048576) (h:ox w v ms):
  Calls Tryz.prog 22 #[v,.int .i64 left] w fun e w'=>(∃ r:Int,e=.returned (.int .i64 r)∧szP ((ms.length:Int)≤left) left r)∧Bel w w':=by
 rcases h with⟨a,cap,rfl,rfl⟩|⟨b,off,cap,rfl,hb,hl,hc⟩
 ·refine(yw a cap left w h0 h1).mono ?_;rintro e w' ⟨rfl,rfl⟩;exact⟨⟨_,rfl,by unfold szP;exact⟨by omega,by omega,fun _=>by simpa using h0⟩⟩,br⟩
 ·exact xH b off cap ms left w h0 h1 hb hl hc
structure Bk where
 now:Int
 tick:Int
 given:Int
 objects:List Ob
 grants:List Gr
 ledgers:List Lg
 purses:List Ps
structure uJ (w:World) (v0 v1 v2 v3:Value) (K:Bk):Prop where
 o:nR w v0 K.objects
 g:nS w v1 K.grants
 l:ox w v2 K.ledgers
 p:oW w v3 K.purses
structure fG (w:World) (b0 b1 b2 b3:Nat) (K:Bk):Prop where
 o:fX w b0 K.objects
 g:gy w b1 K.grants
 l:gV w b2 K.ledgers
 p:iW w b3 K.purses
def Bk.small (K:Bk):Prop:=(K.objects.length≤1048576∧∀ x∈K.objects,x.small)∧(K.grants.length≤1048576∧∀ x∈K.grants,x.small)∧K.ledgers.length≤1048576∧K.purses.length≤1048576
theorem uJ.later {w w':World} {v0 v1 v2 v3:Value} {K:Bk} (h:uJ w v0 v1 v2 v3 K) (hb:Bel w w'):uJ w' v0 v1 v2 v3 K:=⟨h.o.later hb,h.g.later hb,h.l.later hb,h.p.later hb⟩
theorem fG.later {w w':World} {b0 b1 b2 b3:Nat} {K:Bk} (h:fG w b0 b1 b2 b3 K) (hb:Bel w w'):fG w' b0 b1 b2 b3 K:=⟨h.o.later hb,h.g.later hb,h.l.later hb,h.p.later hb⟩
theorem FP (K:Bk) (v0 v1 v2 v3:Value) (left:Int) (w:World) (h0:0≤left) (h1:left≤1048576) (h:uJ w v0 v1 v2 v3 K):
  Calls Tryz.prog 6 #[.agg #[.int .i64 K.now,.int .i64 K.tick,.int .i64 K.given,v0,v1,v2,v3],.int .i64 left] w fun e w'=>(∃ r:Int,e=.returned (.int .i64 r)∧szP K.small left r)∧Bel w w':=by
 have HH:=hid h;clear h;obtain⟨wa,ch⟩:∃ wa,wa=w.alloc (.cells #[.int .i64 K.now,.int .i64 K.tick,.int .i64 K.given,v0,v1,v2,v3] 32):=⟨_,rfl⟩
 have cz:Hid (Bel w wa):=by show Below _ _ _;rw[ch];exact ab br _
 have eZ:Hid (bd wa w.heap.size (.int .i64 K.now) (.int .i64 K.tick) (.int .i64 K.given) (v0) (v1) (v2) (v3)):=by show bd _ _ _ _ _ _ _ _ _;rw[ch];exact bd.bp w _ _ _ _ _ _ _ _ _ rfl
 go_enter Tryz.func6,Tryz.ntmps6
 go_upto_region 1 with fail
 rw[← ch];clear ch;obtain⟨yz,y0,y1,y2,y3,y4,y5,y6⟩:=eZ.out;go_wp2_with fail
 refine(It v0 K.objects left wa (by omega) (by omega) (HH.out.later cz.out).o).mono ?_;rintro e wb ⟨⟨r0,rfl,hr⟩,hb⟩;have rI:=hid hr;have q0: -1≤r0:=hr.1;have q0':r0≤left:=hr.2.1;have gv:=hid (aa cz.out hb);have ik:=hid (eZ.out.later hb);clear hr hb yz y0 y1 y2 y3 y4 y5 y6 eZ cz;by_cases c0:r0<0
 ·go_wp2;go_ret;exact⟨⟨_,rfl,by unfold szP;exact⟨by omega,by omega,by omega⟩⟩,gv.out⟩
 obtain⟨yz,y0,y1,y2,y3,y4,y5,y6⟩:=ik.out;go_wp2_with fail
 refine(Iv v1 K.grants r0 wb (by omega) (by omega) (HH.out.later gv.out).g).mono ?_;rintro e wc ⟨⟨r1,rfl,hr⟩,hb⟩;have Cj:=hid hr;have q1: -1≤r1:=hr.1;have q1':r1≤r0:=hr.2.1;have jE:=hid (aa gv.out hb);have lN:=hid (ik.out.later hb);clear hr hb yz y0 y1 y2 y3 y4 y5 y6 ik gv;by_cases c1:r1<0
 ·go_wp2;go_ret;exact⟨⟨_,rfl,by unfold szP;exact⟨by omega,by omega,by omega⟩⟩,jE.out⟩
 obtain⟨yz,y0,y1,y2,y3,y4,y5,y6⟩:=lN.out;go_wp2_with fail
 refine(IV v2 K.ledgers r1 wc (by omega) (by omega) (HH.out.later jE.out).l).mono ?_;rintro e wd ⟨⟨r2,rfl,hr⟩,hb⟩;have mn:=hid hr;have q2: -1≤r2:=hr.1;have q2':r2≤r1:=hr.2.1;have lI:=hid (aa jE.out hb);have nk:=hid (lN.out.later hb);clear hr hb yz y0 y1 y2 y3 y4 y5 y6 lN jE;by_cases c2:r2<0
 ·go_wp2;go_ret;exact⟨⟨_,rfl,by unfold szP;exact⟨by omega,by omega,by omega⟩⟩,lI.out⟩
 obtain⟨yz,y0,y1,y2,y3,y4,y5,y6⟩:=nk.out;go_wp2_with fail
 refine(IM v3 K.purses r2 wd (by omega) (by omega) (HH.out.later lI.out).p).mono ?_;rintro e we ⟨⟨r3,rfl,hr⟩,hb⟩;have Ic:=hid hr;have q3: -1≤r3:=hr.1;have q3':r3≤r2:=hr.2.1;have tz:=hid (aa lI.out hb);have xc:=hid (nk.out.later hb);clear hr hb yz y0 y1 y2 y3 y4 y5 y6 nk lI;by_cases c3:r3<0
 ·go_wp2;go_ret;exact⟨⟨_,rfl,by unfold szP;exact⟨by omega,by omega,by omega⟩⟩,tz.out⟩
 go_wp2;go_ret;refine⟨⟨_,rfl, ?_⟩,tz.out⟩;have k0:=rI.out.2.2 (by omega);have k1:=Cj.out.2.2 (by omega);have k2:=mn.out.2.2 (by omega);have k3:=Ic.out.2.2 (by omega);unfold szP;exact⟨by omega,by omega,fun _=>⟨⟨by omega,k0.2⟩,⟨by omega,k1.2⟩,by omega,by omega⟩⟩
theorem FK (K:Bk) (v0 v1 v2 v3:Value) (w:World) (hs:K.small) (h:uJ w v0 v1 v2 v3 K):
  Calls Tryz.prog 9 #[.agg #[.int .i64 K.now,.int .i64 K.tick,.int .i64 K.given,v0,v1,v2,v3]] w fun e w'=>(∃ b0 b1 b2 b3,e=.returned (.agg #[.int .i64 K.now,.int .i64 K.tick,.int .i64 K.given,.slice (some ⟨b0,0,none⟩) K.objects.length K.objects.length,.slice (some ⟨b1,0,none⟩) K.grants.length K.grants.length,.slice (some ⟨b2,0,none⟩) K.ledgers.length K.ledgers.length,.slice (some ⟨b3,0,none⟩) K.purses.length K.purses.length])∧fG w' b0 b1 b2 b3 K∧w.heap.size≤b0∧w.heap.size≤b1∧w.heap.size≤b2∧w.heap.size≤b3)∧Bel w w':=by
 have HH:=hid (And.intro h hs);clear h hs;obtain⟨wa,ch⟩:∃ wa,wa=((w.alloc (.cells #[.int .i64 K.now,.int .i64 K.tick,.int .i64 K.given,v0,v1,v2,v3] 32)).alloc (.cells #[.int .i64 0,.int .i64 0,.int .i64 0,.slice none 0 0,.slice none 0 0,.slice none 0 0,.slice none 0 0] 47)).alloc (.cells #[.int .i64 K.now,.int .i64 K.tick,.int .i64 K.given,.slice none 0 0,.slice none 0 0,.slice none 0 0,.slice none 0 0] 47):=⟨_,rfl⟩
 have cz:Hid (Bel w wa):=by show Below _ _ _;rw[ch];exact ab (ab (ab br _) _) _
 have eZ:Hid (bd wa w.heap.size (.int .i64 K.now) (.int .i64 K.tick) (.int .i64 K.given) (v0) (v1) (v2) (v3)):=by show bd _ _ _ _ _ _ _ _ _;rw[ch];exact((bd.bp w _ _ _ _ _ _ _ _ _ rfl).cy _).cy _
 have tu:Hid (ai wa (w.heap.size+2) 47 7):=by show ai _ _ _ _;rw[ch];exact ai.im _ _ _ _ _ rfl (by simp)
 have KP:Hid (ai wa (w.heap.size+1) 47 7):=by show ai _ _ _ _;rw[ch];exact(ai.im _ _ _ _ _ rfl (by simp)).cy _
 have Ci:Hid (wa.cell? ⟨w.heap.size+2,0,none⟩=some (.int .i64 K.now)∧wa.cell? ⟨w.heap.size+2,1,none⟩=some (.int .i64 K.tick)∧wa.cell? ⟨w.heap.size+2,2,none⟩=some (.int .i64 K.given)):=by show _∧_∧_;rw[ch];exact⟨World.cell?_alloc_at _ _ _ _ (by simp),World.cell?_alloc_at _ _ _ _ (by simp),World.cell?_alloc_at _ _ _ _ (by simp)⟩
 have GP:Hid (w.heap.size+3≤wa.heap.size):=by show _≤_;rw[ch];simp
 go_enter Tryz.func9,Tryz.ntmps9
 go_upto_region 5 with fail
 rw[← ch];clear ch;obtain⟨yz,y0,y1,y2,y3,y4,y5,y6⟩:=eZ.out;go_wp2_with fail
 refine(IL v0 K.objects wa HH.out.2.1.1 HH.out.2.1.2 (HH.out.1.later cz.out).o).mono ?_;rintro e wb ⟨rfl,hb,hi⟩;obtain⟨p0,hp⟩:∃ p0,p0=wa.heap.size:=⟨_,rfl⟩
 rw[← hp]at hi ⊢;have pC:Hid (w.heap.size+3≤p0):=by show _≤_;rw[hp];exact GP.out
 have JW:=hid hi;have gv:=hid (aa cz.out hb);have ik:=hid (eZ.out.later hb);have pB:=hid (tu.out.later hb);have F1:=hid (KP.out.later hb);have vk:=hid (And.intro ((hb.cell (p:=⟨w.heap.size+2,0,none⟩) tu.out.lt).trans Ci.out.1) (And.intro ((hb.cell (p:=⟨w.heap.size+2,1,none⟩) tu.out.lt).trans Ci.out.2.1) ((hb.cell (p:=⟨w.heap.size+2,2,none⟩) tu.out.lt).trans Ci.out.2.2)));have DY:=hid (Nat.le_trans GP.out hb.size);clear hi hb hp yz y0 y1 y2 y3 y4 y5 y6 eZ cz tu KP Ci GP;have ij:=pB.out.frozen;have hz:=pB.out.lt;obtain⟨z,ez⟩:=pB.out.cell 3 (by omega);obtain⟨wc,hw⟩:∃ wc,wc=wb.setCell ⟨w.heap.size+2,3,none⟩ (.slice (some ⟨p0,0,none⟩) K.objects.length K.objects.length):=⟨_,rfl⟩
 have jE:Hid (Bel w wc):=by show Below _ _ _;rw[hw];exact gv.out.setCell (p:=⟨w.heap.size+2,3,none⟩) (by show w.heap.size≤w.heap.size+2;omega) _
 have lN:Hid (bd wc w.heap.size (.int .i64 K.now) (.int .i64 K.tick) (.int .i64 K.given) (v0) (v1) (v2) (v3)):=by
  show bd _ _ _ _ _ _ _ _ _;rw[hw];obtain⟨yz,y0,y1,y2,y3,y4,y5,y6⟩:=ik.out;exact⟨by rw[bg];exact yz,(aF _ _ _ _ _ _ (by omega)).trans y0,(aF _ _ _ _ _ _ (by omega)).trans y1,(aF _ _ _ _ _ _ (by omega)).trans y2,(aF _ _ _ _ _ _ (by omega)).trans y3,(aF _ _ _ _ _ _ (by omega)).trans y4,(aF _ _ _ _ _ _ (by omega)).trans y5,(aF _ _ _ _ _ _ (by omega)).trans y6⟩
 have qx:Hid (ai wc (w.heap.size+2) 47 7):=by show ai _ _ _ _;rw[hw];exact pB.out.setCell 3 _
 have Ip:Hid (ai wc (w.heap.size+1) 47 7):=by show ai _ _ _ _;rw[hw];exact F1.out.bk (by omega) _ _
 have Jb:Hid (wc.cell? ⟨w.heap.size+2,0,none⟩=some (.int .i64 K.now)∧wc.cell? ⟨w.heap.size+2,1,none⟩=some (.int .i64 K.tick)∧wc.cell? ⟨w.heap.size+2,2,none⟩=some (.int .i64 K.given)∧wc.cell? ⟨w.heap.size+2,3,none⟩=some (.slice (some ⟨p0,0,none⟩) K.objects.length K.objects.length)):=by
  show _∧_∧_∧_;rw[hw];exact⟨(aF _ _ _ _ _ _ (by omega)).trans vk.out.1,(aF _ _ _ _ _ _ (by omega)).trans vk.out.2.1,(aF _ _ _ _ _ _ (by omega)).trans vk.out.2.2,eL pB.out 3 (by omega) _⟩
 have Ky:Hid (fX wc p0 K.objects):=by
  show fX _ _ _;rw[hw];exact JW.out.sc (by have:=pC.out;omega) _ _
 have GR:Hid (w.heap.size+3≤wc.heap.size):=by show _≤_;rw[hw,bg];exact DY.out
 go_upto_region 6 with fail
 rw[← hw];clear hw ij hz ez gv ik pB F1 vk JW DY;obtain⟨yz,y0,y1,y2,y3,y4,y5,y6⟩:=lN.out;go_wp2_with fail
 refine(IW v1 K.grants wc HH.out.2.2.1.1 HH.out.2.2.1.2 (HH.out.1.later jE.out).g).mono ?_;rintro e wd ⟨rfl,hb,hi⟩;obtain⟨p1,hp⟩:∃ p1,p1=wc.heap.size:=⟨_,rfl⟩
 rw[← hp]at hi ⊢;have zg:Hid (w.heap.size+3≤p1):=by show _≤_;rw[hp];exact GR.out
 have BG:=hid (And.intro (Ky.out.later hb) hi);have lI:=hid (aa jE.out hb);have nk:=hid (lN.out.later hb);have tv:=hid (qx.out.later hb);have vw:=hid (Ip.out.later hb);have Kr:=hid (And.intro ((hb.cell (p:=⟨w.heap.size+2,0,none⟩) qx.out.lt).trans Jb.out.1) (And.intro ((hb.cell (p:=⟨w.heap.size+2,1,none⟩) qx.out.lt).trans Jb.out.2.1) (And.intro ((hb.cell (p:=⟨w.heap.size+2,2,none⟩) qx.out.lt).trans Jb.out.2.2.1) ((hb.cell (p:=⟨w.heap.size+2,3,none⟩) qx.out.lt).trans Jb.out.2.2.2))));have I4:=hid (Nat.le_trans GR.out hb.size);clear hi hb hp yz y0 y1 y2 y3 y4 y5 y6 lN jE qx Ip Jb GR Ky;have ij:=tv.out.frozen;have hz:=tv.out.lt;obtain⟨z,ez⟩:=tv.out.cell 4 (by omega);obtain⟨we,hw⟩:∃ we,we=wd.setCell ⟨w.heap.size+2,4,none⟩ (.slice (some ⟨p1,0,none⟩) K.grants.length K.grants.length):=⟨_,rfl⟩
 have tz:Hid (Bel w we):=by show Below _ _ _;rw[hw];exact lI.out.setCell (p:=⟨w.heap.size+2,4,none⟩) (by show w.heap.size≤w.heap.size+2;omega) _
 have xc:Hid (bd we w.heap.size (.int .i64 K.now) (.int .i64 K.tick) (.int .i64 K.given) (v0) (v1) (v2) (v3)):=by
  show bd _ _ _ _ _ _ _ _ _;rw[hw];obtain⟨yz,y0,y1,y2,y3,y4,y5,y6⟩:=nk.out;exact⟨by rw[bg];exact yz,(aF _ _ _ _ _ _ (by omega)).trans y0,(aF _ _ _ _ _ _ (by omega)).trans y1,(aF _ _ _ _ _ _ (by omega)).trans y2,(aF _ _ _ _ _ _ (by omega)).trans y3,(aF _ _ _ _ _ _ (by omega)).trans y4,(aF _ _ _ _ _ _ (by omega)).trans y5,(aF _ _ _ _ _ _ (by omega)).trans y6⟩
 have xa:Hid (ai we (w.heap.size+2) 47 7):=by show ai _ _ _ _;rw[hw];exact tv.out.setCell 4 _
 have Le:Hid (ai we (w.heap.size+1) 47 7):=by show ai _ _ _ _;rw[hw];exact vw.out.bk (by omega) _ _
 have Ig:Hid (we.cell? ⟨w.heap.size+2,0,none⟩=some (.int .i64 K.now)∧we.cell? ⟨w.heap.size+2,1,none⟩=some (.int .i64 K.tick)∧we.cell? ⟨w.heap.size+2,2,none⟩=some (.int .i64 K.given)∧we.cell? ⟨w.heap.size+2,3,none⟩=some (.slice (some ⟨p0,0,none⟩) K.objects.length K.objects.length)∧we.cell? ⟨w.heap.size+2,4,none⟩=some (.slice (some ⟨p1,0,none⟩) K.grants.length K.grants.length)):=by
  show _∧_∧_∧_∧_;rw[hw];exact⟨(aF _ _ _ _ _ _ (by omega)).trans Kr.out.1,(aF _ _ _ _ _ _ (by omega)).trans Kr.out.2.1,(aF _ _ _ _ _ _ (by omega)).trans Kr.out.2.2.1,(aF _ _ _ _ _ _ (by omega)).trans Kr.out.2.2.2,eL tv.out 4 (by omega) _⟩
 have Gk:Hid (fX we p0 K.objects∧gy we p1 K.grants):=by
  show _∧_;rw[hw];exact⟨BG.out.1.sc (by have:=pC.out;omega) _ _,BG.out.2.sc (by have:=zg.out;omega) _ _⟩
 have Hv:Hid (w.heap.size+3≤we.heap.size):=by show _≤_;rw[hw,bg];exact I4.out
 go_upto_region 7 with fail
 rw[← hw];clear hw ij hz ez lI nk tv vw Kr BG I4;obtain⟨yz,y0,y1,y2,y3,y4,y5,y6⟩:=xc.out;go_wp2_with fail
 refine(IH v2 K.ledgers we HH.out.2.2.2.1 (HH.out.1.later tz.out).l).mono ?_;rintro e wf ⟨rfl,hb,hi⟩;obtain⟨p2,hp⟩:∃ p2,p2=we.heap.size:=⟨_,rfl⟩
 rw[← hp]at hi ⊢;have vo:Hid (w.heap.size+3≤p2):=by show _≤_;rw[hp];exact Hv.out
 have Eb:=hid (And.intro (Gk.out.1.later hb) (And.intro (Gk.out.2.later hb) hi));have JX:=hid (aa tz.out hb);have HXf:=hid (xc.out.later hb);have zd:=hid (xa.out.later hb);have JH:=hid (Le.out.later hb);have Ec:=hid (And.intro ((hb.cell (p:=⟨w.heap.size+2,0,none⟩) xa.out.lt).trans Ig.out.1) (And.intro ((hb.cell (p:=⟨w.heap.size+2,1,none⟩) xa.out.lt).trans Ig.out.2.1) (And.intro ((hb.cell (p:=⟨w.heap.size+2,2,none⟩) xa.out.lt).trans Ig.out.2.2.1) (And.intro ((hb.cell (p:=⟨w.heap.size+2,3,none⟩) xa.out.lt).trans Ig.out.2.2.2.1) ((hb.cell (p:=⟨w.heap.size+2,4,none⟩) xa.out.lt).trans Ig.out.2.2.2.2)))));have HZf:=hid (Nat.le_trans Hv.out hb.size);clear hi hb hp yz y0 y1 y2 y3 y4 y5 y6 xc tz xa Le Ig Hv Gk;have ij:=zd.out.frozen;have hz:=zd.out.lt;obtain⟨z,ez⟩:=zd.out.cell 5 (by omega);obtain⟨wg,hw⟩:∃ wg,wg=wf.setCell ⟨w.heap.size+2,5,none⟩ (.slice (some ⟨p2,0,none⟩) K.ledgers.length K.ledgers.length):=⟨_,rfl⟩
 have DW:Hid (Bel w wg):=by show Below _ _ _;rw[hw];exact JX.out.setCell (p:=⟨w.heap.size+2,5,none⟩) (by show w.heap.size≤w.heap.size+2;omega) _
 have B0:Hid (bd wg w.heap.size (.int .i64 K.now) (.int .i64 K.tick) (.int .i64 K.given) (v0) (v1) (v2) (v3)):=by
  show bd _ _ _ _ _ _ _ _ _;rw[hw];obtain⟨yz,y0,y1,y2,y3,y4,y5,y6⟩:=HXf.out;exact⟨by rw[bg];exact yz,(aF _ _ _ _ _ _ (by omega)).trans y0,(aF _ _ _ _ _ _ (by omega)).trans y1,(aF _ _ _ _ _ _ (by omega)).trans y2,(aF _ _ _ _ _ _ (by omega)).trans y3,(aF _ _ _ _ _ _ (by omega)).trans y4,(aF _ _ _ _ _ _ (by omega)).trans y5,(aF _ _ _ _ _ _ (by omega)).trans y6⟩
 have EL:Hid (ai wg (w.heap.size+2) 47 7):=by show ai _ _ _ _;rw[hw];exact zd.out.setCell 5 _
 have pq:Hid (ai wg (w.heap.size+1) 47 7):=by show ai _ _ _ _;rw[hw];exact JH.out.bk (by omega) _ _
 have Hc:Hid (wg.cell? ⟨w.heap.size+2,0,none⟩=some (.int .i64 K.now)∧wg.cell? ⟨w.heap.size+2,1,none⟩=some (.int .i64 K.tick)∧wg.cell? ⟨w.heap.size+2,2,none⟩=some (.int .i64 K.given)∧wg.cell? ⟨w.heap.size+2,3,none⟩=some (.slice (some ⟨p0,0,none⟩) K.objects.length K.objects.length)∧wg.cell? ⟨w.heap.size+2,4,none⟩=some (.slice (some ⟨p1,0,none⟩) K.grants.length K.grants.length)∧wg.cell? ⟨w.heap.size+2,5,none⟩=some (.slice (some ⟨p2,0,none⟩) K.ledgers.length K.ledgers.length)):=by
  show _∧_∧_∧_∧_∧_;rw[hw];exact⟨(aF _ _ _ _ _ _ (by omega)).trans Ec.out.1,(aF _ _ _ _ _ _ (by omega)).trans Ec.out.2.1,(aF _ _ _ _ _ _ (by omega)).trans Ec.out.2.2.1,(aF _ _ _ _ _ _ (by omega)).trans Ec.out.2.2.2.1,(aF _ _ _ _ _ _ (by omega)).trans Ec.out.2.2.2.2,eL zd.out 5 (by omega) _⟩
 have EI:Hid (fX wg p0 K.objects∧gy wg p1 K.grants∧gV wg p2 K.ledgers):=by
  show _∧_∧_;rw[hw];exact⟨Eb.out.1.sc (by have:=pC.out;omega) _ _,Eb.out.2.1.sc (by have:=zg.out;omega) _ _,Eb.out.2.2.sc (by have:=vo.out;omega) _ _⟩
 have Nc:Hid (w.heap.size+3≤wg.heap.size):=by show _≤_;rw[hw,bg];exact HZf.out
 go_upto_region 8 with fail
 rw[← hw];clear hw ij hz ez JX HXf zd JH Ec Eb HZf;obtain⟨yz,y0,y1,y2,y3,y4,y5,y6⟩:=B0.out;go_wp2_with fail
 refine(ID v3 K.purses wg HH.out.2.2.2.2 (HH.out.1.later DW.out).p).mono ?_;rintro e wh ⟨rfl,hb,hi⟩;obtain⟨p3,hp⟩:∃ p3,p3=wg.heap.size:=⟨_,rfl⟩
 rw[← hp]at hi ⊢;have LV:Hid (w.heap.size+3≤p3):=by show _≤_;rw[hp];exact Nc.out
 have Jj:=hid (And.intro (EI.out.1.later hb) (And.intro (EI.out.2.1.later hb) (And.intro (EI.out.2.2.later hb) hi)));have HBh:=hid (aa DW.out hb);have KK:=hid (B0.out.later hb);have H9:=hid (EL.out.later hb);have HRh:=hid (pq.out.later hb);have Gg:=hid (And.intro ((hb.cell (p:=⟨w.heap.size+2,0,none⟩) EL.out.lt).trans Hc.out.1) (And.intro ((hb.cell (p:=⟨w.heap.size+2,1,none⟩) EL.out.lt).trans Hc.out.2.1) (And.intro ((hb.cell (p:=⟨w.heap.size+2,2,none⟩) EL.out.lt).trans Hc.out.2.2.1) (And.intro ((hb.cell (p:=⟨w.heap.size+2,3,none⟩) EL.out.lt).trans Hc.out.2.2.2.1) (And.intro ((hb.cell (p:=⟨w.heap.size+2,4,none⟩) EL.out.lt).trans Hc.out.2.2.2.2.1) ((hb.cell (p:=⟨w.heap.size+2,5,none⟩) EL.out.lt).trans Hc.out.2.2.2.2.2))))));have HZh:=hid (Nat.le_trans Nc.out hb.size);clear hi hb hp yz y0 y1 y2 y3 y4 y5 y6 B0 DW EL pq Hc Nc EI;have ij:=H9.out.frozen;have hz:=H9.out.lt;obtain⟨z,ez⟩:=H9.out.cell 6 (by omega);obtain⟨wi,hw⟩:∃ wi,wi=wh.setCell ⟨w.heap.size+2,6,none⟩ (.slice (some ⟨p3,0,none⟩) K.purses.length K.purses.length):=⟨_,rfl⟩
 have Kh:Hid (Bel w wi):=by show Below _ _ _;rw[hw];exact HBh.out.setCell (p:=⟨w.heap.size+2,6,none⟩) (by show w.heap.size≤w.heap.size+2;omega) _
 have Hz:Hid (bd wi w.heap.size (.int .i64 K.now) (.int .i64 K.tick) (.int .i64 K.given) (v0) (v1) (v2) (v3)):=by
  show bd _ _ _ _ _ _ _ _ _;rw[hw];obtain⟨yz,y0,y1,y2,y3,y4,y5,y6⟩:=KK.out;exact⟨by rw[bg];exact yz,(aF _ _ _ _ _ _ (by omega)).trans y0,(aF _ _ _ _ _ _ (by omega)).trans y1,(aF _ _ _ _ _ _ (by omega)).trans y2,(aF _ _ _ _ _ _ (by omega)).trans y3,(aF _ _ _ _ _ _ (by omega)).trans y4,(aF _ _ _ _ _ _ (by omega)).trans y5,(aF _ _ _ _ _ _ (by omega)).trans y6⟩
 have HOi:Hid (ai wi (w.heap.size+2) 47 7):=by show ai _ _ _ _;rw[hw];exact H9.out.setCell 6 _
 have Cf:Hid (ai wi (w.heap.size+1) 47 7):=by show ai _ _ _ _;rw[hw];exact HRh.out.bk (by omega) _ _
 have Gv:Hid (wi.cell? ⟨w.heap.size+2,0,none⟩=some (.int .i64 K.now)∧wi.cell? ⟨w.heap.size+2,1,none⟩=some (.int .i64 K.tick)∧wi.cell? ⟨w.heap.size+2,2,none⟩=some (.int .i64 K.given)∧wi.cell? ⟨w.heap.size+2,3,none⟩=some (.slice (some ⟨p0,0,none⟩) K.objects.length K.objects.length)∧wi.cell? ⟨w.heap.size+2,4,none⟩=some (.slice (some ⟨p1,0,none⟩) K.grants.length K.grants.length)∧wi.cell? ⟨w.heap.size+2,5,none⟩=some (.slice (some ⟨p2,0,none⟩) K.ledgers.length K.ledgers.length)∧wi.cell? ⟨w.heap.size+2,6,none⟩=some (.slice (some ⟨p3,0,none⟩) K.purses.length K.purses.length)):=by
  show _∧_∧_∧_∧_∧_∧_;rw[hw];exact⟨(aF _ _ _ _ _ _ (by omega)).trans Gg.out.1,(aF _ _ _ _ _ _ (by omega)).trans Gg.out.2.1,(aF _ _ _ _ _ _ (by omega)).trans Gg.out.2.2.1,(aF _ _ _ _ _ _ (by omega)).trans Gg.out.2.2.2.1,(aF _ _ _ _ _ _ (by omega)).trans Gg.out.2.2.2.2.1,(aF _ _ _ _ _ _ (by omega)).trans Gg.out.2.2.2.2.2,eL H9.out 6 (by omega) _⟩
 have HIi:Hid (fX wi p0 K.objects∧gy wi p1 K.grants∧gV wi p2 K.ledgers∧iW wi p3 K.purses):=by
  show _∧_∧_∧_;rw[hw];exact⟨Jj.out.1.sc (by have:=pC.out;omega) _ _,Jj.out.2.1.sc (by have:=zg.out;omega) _ _,Jj.out.2.2.1.sc (by have:=vo.out;omega) _ _,Jj.out.2.2.2.sc (by have:=LV.out;omega) _ _⟩
 have HZi:Hid (w.heap.size+3≤wi.heap.size):=by show _≤_;rw[hw,bg];exact HZh.out
 go_upto_region 9 with fail
 rw[← hw];clear hw ij hz ez HBh KK H9 HRh Gg Jj HZh;have d0:=Gv.out.1;have d1:=Gv.out.2.1;have d2:=Gv.out.2.2.1;have d3:=Gv.out.2.2.2.1;have d4:=Gv.out.2.2.2.2.1;have d5:=Gv.out.2.2.2.2.2.1;have d6:=Gv.out.2.2.2.2.2.2;have dz:=HOi.out.lt;have ij:=Cf.out.frozen;have hz:=Cf.out.lt;obtain⟨z0,e0⟩:=Cf.out.cell 0 (by omega);obtain⟨z1,e1⟩:=Cf.out.cell 1 (by omega);obtain⟨z2,e2⟩:=Cf.out.cell 2 (by omega);obtain⟨z3,e3⟩:=Cf.out.cell 3 (by omega);obtain⟨z4,e4⟩:=Cf.out.cell 4 (by omega);obtain⟨z5,e5⟩:=Cf.out.cell 5 (by omega);obtain⟨z6,e6⟩:=Cf.out.cell 6 (by omega);go_wp2;have p:=fun i hi=>cB 0 [.int .i64 K.now,.int .i64 K.tick,.int .i64 K.given,.slice (some ⟨p0,0,none⟩) K.objects.length K.objects.length,.slice (some ⟨p1,0,none⟩) K.grants.length K.grants.length,.slice (some ⟨p2,0,none⟩) K.ledgers.length K.ledgers.length,.slice (some ⟨p3,0,none⟩) K.purses.length K.purses.length] wi 0 Cf.out (by simp) i hi;have t0:=p 0 (by simp);have t1:=p 1 (by simp);have t2:=p 2 (by simp);have t3:=p 3 (by simp);have t4:=p 4 (by simp);have t5:=p 5 (by simp);have t6:=p 6 (by simp);have qK:Hid (Bel w (aI wi (w.heap.size+1) 0 0 [.int .i64 K.now,.int .i64 K.tick,.int .i64 K.given,.slice (some ⟨p0,0,none⟩) K.objects.length K.objects.length,.slice (some ⟨p1,0,none⟩) K.grants.length K.grants.length,.slice (some ⟨p2,0,none⟩) K.ledgers.length K.ledgers.length,.slice (some ⟨p3,0,none⟩) K.purses.length K.purses.length])):=aY (a:=w) _ (by omega) _ _ _ Kh.out;have Gi:∀ (W:World) (j:Nat) (v:Value),(fX W p0 K.objects∧gy W p1 K.grants∧gV W p2 K.ledgers∧iW W p3 K.purses)→(fX (W.setCell ⟨w.heap.size+1,j,none⟩ v) p0 K.objects∧gy (W.setCell ⟨w.heap.size+1,j,none⟩ v) p1 K.grants∧gV (W.setCell ⟨w.heap.size+1,j,none⟩ v) p2 K.ledgers∧iW (W.setCell ⟨w.heap.size+1,j,none⟩ v) p3 K.purses):=fun W j v hh=>⟨hh.1.sc (by have:=pC.out;omega) _ _,hh.2.1.sc (by have:=zg.out;omega) _ _,hh.2.2.1.sc (by have:=vo.out;omega) _ _,hh.2.2.2.sc (by have:=LV.out;omega) _ _⟩
 simp only[aI,Nat.add_zero,Nat.zero_add,Nat.reduceAdd,List.getElem?_cons_zero,List.getElem?_cons_succ]at t0 t1 t2 t3 t4 t5 t6;have HQ:=Gi _ 6 (.slice (some ⟨p3,0,none⟩) K.purses.length K.purses.length) (Gi _ 5 (.slice (some ⟨p2,0,none⟩) K.ledgers.length K.ledgers.length) (Gi _ 4 (.slice (some ⟨p1,0,none⟩) K.grants.length K.grants.length) (Gi _ 3 (.slice (some ⟨p0,0,none⟩) K.objects.length K.objects.length) (Gi _ 2 (.int .i64 K.given) (Gi _ 1 (.int .i64 K.tick) (Gi _ 0 (.int .i64 K.now) HIi.out))))));refine bodyPost_ret (v:=.agg #[.int .i64 K.now,.int .i64 K.tick,.int .i64 K.given,.slice (some ⟨p0,0,none⟩) K.objects.length K.objects.length,.slice (some ⟨p1,0,none⟩) K.grants.length K.grants.length,.slice (some ⟨p2,0,none⟩) K.ledgers.length K.ledgers.length,.slice (some ⟨p3,0,none⟩) K.purses.length K.purses.length]) (by simp[results,Tryz.results9,go_sem,t0,t1,t2,t3,t4,t5,t6]) rfl ⟨⟨p0,p1,p2,p3,rfl,⟨HQ.1,HQ.2.1,HQ.2.2.1,HQ.2.2.2⟩,by have:=pC.out;omega,by have:=zg.out;omega,by have:=vo.out;omega,by have:=LV.out;omega⟩, ?_⟩;exact qK.out
theorem FR (K:Bk) (b0 b1 b2 b3 q0 q1 q2 q3:Nat) (w:World) (h:fG w b0 b1 b2 b3 K) (h':fG w q0 q1 q2 q3 K):
  Calls Tryz.prog 12 #[.agg #[.int .i64 K.now,.int .i64 K.tick,.int .i64 K.given,.slice (some ⟨b0,0,none⟩) K.objects.length K.objects.length,.slice (some ⟨b1,0,none⟩) K.grants.length K.grants.length,.slice (some ⟨b2,0,none⟩) K.ledgers.length K.ledgers.length,.slice (some ⟨b3,0,none⟩) K.purses.length K.purses.length],.agg #[.int .i64 K.now,.int .i64 K.tick,.int .i64 K.given,.slice (some ⟨q0,0,none⟩) K.objects.length K.objects.length,.slice (some ⟨q1,0,none⟩) K.grants.length K.grants.length,.slice (some ⟨q2,0,none⟩) K.ledgers.length K.ledgers.length,.slice (some ⟨q3,0,none⟩) K.purses.length K.purses.length]] w fun e w'=>e=.returned (.bool true)∧Bel w w':=by
 have HH:=hid (And.intro h h');clear h h';obtain⟨wa,ch⟩:∃ wa,wa=(w.alloc (.cells #[.int .i64 K.now,.int .i64 K.tick,.int .i64 K.given,.slice (some ⟨b0,0,none⟩) K.objects.length K.objects.length,.slice (some ⟨b1,0,none⟩) K.grants.length K.grants.length,.slice (some ⟨b2,0,none⟩) K.ledgers.length K.ledgers.length,.slice (some ⟨b3,0,none⟩) K.purses.length K.purses.length] 47)).alloc (.cells #[.int .i64 K.now,.int .i64 K.tick,.int .i64 K.given,.slice (some ⟨q0,0,none⟩) K.objects.length K.objects.length,.slice (some ⟨q1,0,none⟩) K.grants.length K.grants.length,.slice (some ⟨q2,0,none⟩) K.ledgers.length K.ledgers.length,.slice (some ⟨q3,0,none⟩) K.purses.length K.purses.length] 47):=⟨_,rfl⟩
 have cz:Hid (Bel w wa):=by show Below _ _ _;rw[ch];exact ab (ab br _) _
 have eZ:Hid (bd wa w.heap.size (.int .i64 K.now) (.int .i64 K.tick) (.int .i64 K.given) (.slice (some ⟨b0,0,none⟩) K.objects.length K.objects.length) (.slice (some ⟨b1,0,none⟩) K.grants.length K.grants.length) (.slice (some ⟨b2,0,none⟩) K.ledgers.length K.ledgers.length) (.slice (some ⟨b3,0,none⟩) K.purses.length K.purses.length)∧bd wa (w.heap.size+1) (.int .i64 K.now) (.int .i64 K.tick) (.int .i64 K.given) (.slice (some ⟨q0,0,none⟩) K.objects.length K.objects.length) (.slice (some ⟨q1,0,none⟩) K.grants.length K.grants.length) (.slice (some ⟨q2,0,none⟩) K.ledgers.length K.ledgers.length) (.slice (some ⟨q3,0,none⟩) K.purses.length K.purses.length)):=by show _∧_;rw[ch];exact⟨(bd.bp w _ _ _ _ _ _ _ _ _ rfl).cy _,bd.bp _ _ _ _ _ _ _ _ _ _ (by simp)⟩
 go_enter Tryz.func12,Tryz.ntmps12
 go_upto_region 1 with fail
 rw[← ch];clear ch;obtain⟨yz,y0,y1,y2,y3,y4,y5,y6⟩:=eZ.out.1;obtain⟨xz,x0,x1,x2,x3,x4,x5,x6⟩:=eZ.out.2;go_wp2_with fail
 refine(IT b0 q0 K.objects wa (HH.out.1.later cz.out).o (HH.out.2.later cz.out).o).mono ?_;rintro e wb ⟨rfl,hb⟩;have gv:=hid (aa cz.out hb);have ik:=hid (And.intro (eZ.out.1.later hb) (eZ.out.2.later hb));clear hb yz y0 y1 y2 y3 y4 y5 y6 xz x0 x1 x2 x3 x4 x5 x6 eZ cz;obtain⟨yz,y0,y1,y2,y3,y4,y5,y6⟩:=ik.out.1;obtain⟨xz,x0,x1,x2,x3,x4,x5,x6⟩:=ik.out.2;go_wp2_with fail
 refine(IF b1 q1 K.grants wb (HH.out.1.later gv.out).g (HH.out.2.later gv.out).g).mono ?_;rintro e wc ⟨rfl,hb⟩;have jE:=hid (aa gv.out hb);have lN:=hid (And.intro (ik.out.1.later hb) (ik.out.2.later hb));clear hb yz y0 y1 y2 y3 y4 y5 y6 xz x0 x1 x2 x3 x4 x5 x6 ik gv;obtain⟨yz,y0,y1,y2,y3,y4,y5,y6⟩:=lN.out.1;obtain⟨xz,x0,x1,x2,x3,x4,x5,x6⟩:=lN.out.2;go_wp2_with fail
 refine(IB b2 q2 K.ledgers wc (HH.out.1.later jE.out).l (HH.out.2.later jE.out).l).mono ?_;rintro e wd ⟨rfl,hb⟩;have lI:=hid (aa jE.out hb);have nk:=hid (And.intro (lN.out.1.later hb) (lN.out.2.later hb));clear hb yz y0 y1 y2 y3 y4 y5 y6 xz x0 x1 x2 x3 x4 x5 x6 lN jE;obtain⟨yz,y0,y1,y2,y3,y4,y5,y6⟩:=nk.out.1;obtain⟨xz,x0,x1,x2,x3,x4,x5,x6⟩:=nk.out.2;go_wp2_with fail
 refine(IU b3 q3 K.purses wd (HH.out.1.later lI.out).p (HH.out.2.later lI.out).p).mono ?_;rintro e we ⟨rfl,hb⟩;have tz:=hid (aa lI.out hb);have xc:=hid (And.intro (nk.out.1.later hb) (nk.out.2.later hb));clear hb yz y0 y1 y2 y3 y4 y5 y6 xz x0 x1 x2 x3 x4 x5 x6 nk lI;go_wp2;go_ret;exact⟨rfl,tz.out⟩
end Go.Proofs.YtbiokpmdghmgcaaGreat
