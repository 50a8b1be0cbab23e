import Derived.Test.YtbiokpmdghmgcaaGreatProg
import Derived.RowKit
import Derived.WalkKit
import Derived.WalkSpells
import Derived.WalkLawsBesides
import Derived.BigQuiet
import Derived.Deep.QuietTactic
import Derived.Deep.OwnRows
import Derived.Test.YtbiokpmdghmgcaaGreatPlain
import Derived.Test.YtbiokpmdghmgcaaGreatMap
namespace Go.Proofs.YtbiokpmdghmgcaaGreat
set_option maxHeartbeats 40000000
open Go.RowKit
theorem pW (b off cap:Nat) (ss:List ByteArray) (s:ByteArray) (w:World) (hl:ss.length≤maxLen)
  (hc:∀ i,i<ss.length→w.cell? ⟨b,off+i,none⟩=some (.string (ss.getD i ByteArray.empty))):
  Calls Tryz.prog 164 #[.slice (some ⟨b,off,none⟩) ss.length cap,.string s] w fun e w'=>e=.returned (.bool (Pl.has ss s))∧w=w':=by
 unfold maxLen at hl;go_enter Tryz.func164,Tryz.ntmps164
 go_wp2;go_loop [5] (fun i=>∃ k:Nat,k≤ss.length∧i=.int .i64 k∧Pl.has (ss.take k) s=false) (fun i=>ss.length - (intOf i).toNat)
 case atStart=>exact⟨0,nz,rfl,rfl⟩
 case round=>
  obtain⟨k,hk,rfl,av⟩:=hrel;have HA:=hid av;clear av;by_cases aw:k<ss.length
  ·have vL:=hc k aw;have HT:Hid ((ss[k].toList==s.toList)=true→Pl.has ss s=true):=fun h=>Pl.q8 ss s k aw h;have HN:Hid ((ss[k].toList==s.toList)=false→Pl.has (ss.take (k+1)) s=false):=fun h=>by rw[Pl.rj ss s k aw,HA.out,h];rfl
   cases hq:(ss[k].toList==s.toList)
   ·have HQ:=HN.out hq;have AP:=hid HQ;clear HQ HT HN;go_wp2;go_round
    case rel=>exact⟨k+1,by omega,by go_num,AP.out⟩
    case measure=>simp[intOf];omega
   ·have HQ:=HT.out hq;have AP:=hid HQ;clear HQ HT HN;go_wp2;go_ret;exact⟨Pl.ae AP.out.symm,rfl⟩
  ·have AP:Hid (Pl.has ss s=false):=by show Pl.has ss s=false;rw[← Pl.pL ss s k (by omega)];exact HA.out
   go_wp2;go_ret;exact⟨Pl.ae AP.out.symm,rfl⟩
theorem xD (b off cap:Nat) (ss:List ByteArray) (s:ByteArray) (w:World) (hl:ss.length≤maxLen)
  (hc:∀ i,i<ss.length→w.cell? ⟨b,off+i,none⟩=some (.string (ss.getD i ByteArray.empty))):
  Calls Tryz.prog 243 #[.slice (some ⟨b,off,none⟩) ss.length cap,.string s] w fun e w'=>(∃ r:Int,e=.returned (.int .i64 r)∧decide (0≤r)=Pl.has ss s)∧w=w':=by
 unfold maxLen at hl;go_enter Tryz.func243,Tryz.ntmps243
 go_wp2;go_loop [8] (fun i=>∃ k:Nat,k≤ss.length∧i=.int .i64 k∧Pl.has (ss.take k) s=false) (fun i=>ss.length - (intOf i).toNat)
 case atStart=>exact⟨0,nz,rfl,rfl⟩
 case round=>
  obtain⟨k,hk,rfl,av⟩:=hrel;have HA:=hid av;clear av;by_cases aw:k<ss.length
  ·have vL:=hc k aw;have HT:Hid ((s.toList==ss[k].toList)=true→Pl.has ss s=true):=fun h=>Pl.q8 ss s k aw (by rw[beq_iff_eq]at h ⊢;exact h.symm);have HN:Hid ((s.toList==ss[k].toList)=false→Pl.has (ss.take (k+1)) s=false):=fun h=>by
    have h':(ss[k].toList==s.toList)=false:=by rw[beq_eq_false_iff_ne]at h ⊢;exact fun e=>h e.symm
    rw[Pl.rj ss s k aw,HA.out,h'];rfl
   cases hq:(s.toList==ss[k].toList)
   ·have HQ:=HN.out hq;have AP:=hid HQ;clear HQ HT HN;go_wp2;go_round
    case rel=>exact⟨k+1,by omega,by go_num,AP.out⟩
    case measure=>simp[intOf];omega
   ·have HQ:=HT.out hq;have AP:=hid HQ;clear HQ HT HN;go_wp2;go_ret;exact⟨⟨_,rfl,by rw[AP.out];simp⟩,rfl⟩
  ·have AP:Hid (Pl.has ss s=false):=by show Pl.has ss s=false;rw[← Pl.pL ss s k (by omega)];exact HA.out
   go_wp2;go_ret;exact⟨⟨_,rfl,by rw[AP.out];simp⟩,rfl⟩
theorem qB (b off cap:Nat) (ss:List ByteArray) (s:ByteArray) (w:World) (hl:ss.length≤maxLen)
  (hc:∀ i,i<ss.length→w.cell? ⟨b,off+i,none⟩=some (.string (ss.getD i ByteArray.empty))):
  Calls Tryz.prog 242 #[.slice (some ⟨b,off,none⟩) ss.length cap,.string s] w fun e w'=>e=.returned (.bool (Pl.has ss s))∧w=w':=by
 have HX:Hid (∀ W,W=w→Calls Tryz.prog 243 #[.slice (some ⟨b,off,none⟩) ss.length cap,.string s] W fun e w'=>(∃ r:Int,e=.returned (.int .i64 r)∧decide (0≤r)=Pl.has ss s)∧W=w'):=by
  intro W e;subst e;exact xD b off cap ss s W hl hc
 clear hc;unfold maxLen at hl;go_enter Tryz.func242,Tryz.ntmps242
 go_wp2_with fail
 refine(HX.out _ rfl).mono ?_;rintro e w' ⟨⟨r,rfl,hr⟩,rfl⟩;have HR:=hid hr;clear hr;go_wp2;go_ret;exact⟨Pl.ae HR.out,rfl⟩
end Go.Proofs.YtbiokpmdghmgcaaGreat
namespace Go.Proofs.YtbiokpmdghmgcaaGreat
set_option maxHeartbeats 40000000
open Go.RowKit Go.Deep
theorem al {a w:World} (h:Bel a w) (n:Nat):Bel a (w.drewN n):=⟨h.os,h.tape,h.output,h.size,h.block⟩
theorem Tryz.rO:(Tryz.prog.info? 9).map (fun i=>(i.zero,i.size,i.bytes))=some (some (.string ByteArray.empty),1,16):=by kernel_rfl
theorem Tryz.ph:Tryz.prog.underlying 94=some (.slice 9):=by kernel_rfl
theorem nA (n:Nat) (h:n≤1048576) (W:World):
  (Instr.makeSlice 94 (.int .i64 (n:Int)) (.int .i64 (n:Int))).run Tryz.prog W=.ok (.slice (some ⟨W.heap.size,0,none⟩) n n) (W.alloc (.cells (madeCells #[.string ByteArray.empty] n) 9)):=
 run_make_row' 94 9 (.string ByteArray.empty) 16 Tryz.ph Tryz.rO rfl .i64 .i64 n (by omega) (by omega) W
theorem wt (cs:Array Value) (ss:List ByteArray) (k:Nat) (s:ByteArray) (hk:k<ss.length) (hs:ss.getD k ByteArray.empty=s) (eQ:cs.size=ss.length)
  (h:∀ j,j<k→cs[j]? =some (.string (ss.getD j ByteArray.empty))):
  (cs.setIfInBounds k (.string s)).size=ss.length∧∀ j,j<k+1→(cs.setIfInBounds k (.string s))[j]? =some (.string (ss.getD j ByteArray.empty)):=by
 refine⟨by simpa using eQ,fun j hj=> ?_⟩;rw[Array.getElem?_setIfInBounds];by_cases e:k=j
 ·subst e;rw[if_pos rfl,if_pos (by omega),hs]
 ·rw[if_neg e];exact h j (by omega)
theorem r8 (b off cap:Nat) (ss:List ByteArray) (w:World) (hb:b<w.heap.size) (hl:ss.length≤1048576)
  (hc:∀ i,i<ss.length→w.cell? ⟨b,off+i,none⟩=some (.string (ss.getD i ByteArray.empty))):
  Calls Tryz.prog 129 #[.slice (some ⟨b,off,none⟩) ss.length cap] w fun e w'=>∃ cs:Array Value,e=.returned (.slice (some ⟨w.heap.size,0,none⟩) ss.length ss.length)∧w'=w.alloc (.cells cs 9)∧cs.size=ss.length∧
   ∀ j,j<ss.length→cs[j]? =some (.string (ss.getD j ByteArray.empty)):=by
 have iI:=nA ss.length hl;have HC:Hid (∀ o i,i<ss.length→(w.alloc o).cell? ⟨b,off+i,none⟩=some (.string (ss.getD i ByteArray.empty))):=by
  intro o i hi;rw[← hc i hi];exact(ab br o:Bel w _).cell (p:=⟨b,off+i,none⟩) hb
 clear hc;go_enter Tryz.func129,Tryz.ntmps129
 go_wp2;go_loopw [4] (fun i wr=>∃ (k:Nat) (cs:Array Value),k≤ss.length∧i=.int .i64 k∧wr=w.alloc (.cells cs 9)∧cs.size=ss.length∧∀ j,j<k→cs[j]? =some (.string (ss.getD j ByteArray.empty))) (fun i _=>ss.length - (intOf i).toNat)
 case atStart=>exact⟨0,_,nz,rfl,rfl,size_madeCells _ _,fun j hj=>absurd hj (Nat.not_lt_zero j)⟩
 case round=>
  obtain⟨k,cs,hk,rfl,rfl,eQ,av⟩:=hrel;have HA:=hid (And.intro eQ av);clear av eQ;by_cases aw:k<ss.length
  ·have vL:=HC.out (.cells cs 9) k aw;have hold:∃ v,cs[k]? =some v:=⟨_,Array.getElem?_eq_getElem (by rw[HA.out.1];exact aw)⟩
   obtain⟨v,hv⟩:=hold;have HP:Hid ((cs.setIfInBounds k (.string ss[k])).size=ss.length∧∀ j,j<k+1→(cs.setIfInBounds k (.string ss[k]))[j]? =some (.string (ss.getD j ByteArray.empty))):=
    wt cs ss k ss[k] aw (by simp[aw]) HA.out.1 HA.out.2
   go_wp2;go_roundw
   case rel=>exact⟨k+1,_,by omega,by go_num,rfl,HP.out.1,HP.out.2⟩
   case measure=>simp[intOf];omega
  ·obtain rfl:k=ss.length:=by omega
   go_wp2;go_ret;exact⟨cs,rfl,rfl,HA.out.1,HA.out.2⟩
theorem ru (a:Option Addr) (cap:Nat) (w:World):
  Calls Tryz.prog 129 #[.slice a 0 cap] w fun e w'=>e=.returned (.slice (some ⟨w.heap.size,0,none⟩) 0 0)∧w'=w.alloc (.cells #[] 9):=by
 have iI:∀ W:World,(Instr.makeSlice 94 (.int .i64 0) (.int .i64 0)).run Tryz.prog W=.ok (.slice (some ⟨W.heap.size,0,none⟩) 0 0) (W.alloc (.cells #[] 9)):=by
  intro W;have h:=nA 0 (by omega) W;have h0:madeCells #[.string ByteArray.empty] 0=#[]:=by simp[madeCells]
  rw[h0]at h;exact h
 go_enter Tryz.func129,Tryz.ntmps129
 go_wp2;refine wp_loop_rounds 1 ?_;rw[rounds_succ];go_wp2;go_ret;exact⟨rfl,rfl⟩
def fE (n:Nat) (left r:Int):Prop:= -1≤r∧r≤left∧(0≤r→(n:Int)≤left)
theorem sx (b off cap:Nat) (ss:List ByteArray) (left:Int) (w:World) (h0:0≤left) (h1:left≤1048576) (hl:ss.length≤maxLen)
  (hs:∀ i,i<ss.length→(ss.getD i ByteArray.empty).size≤maxLen)
  (hc:∀ i,i<ss.length→w.cell? ⟨b,off+i,none⟩=some (.string (ss.getD i ByteArray.empty))):
  Calls Tryz.prog 113 #[.slice (some ⟨b,off,none⟩) ss.length cap,.int .i64 left] w fun e w'=>(∃ r:Int,e=.returned (.int .i64 r)∧fE ss.length left r)∧w=w':=by
 unfold maxLen at hl;by_cases hneg:left<(ss.length:Int)
 ·go_enter Tryz.func113,Tryz.ntmps113
  go_wp2;go_ret;exact⟨⟨_,rfl,by unfold fE;omega⟩,rfl⟩
 ·go_enter Tryz.func113,Tryz.ntmps113
  go_wp2;go_loop [1,5] (fun l i=>∃ (k:Nat) (r:Int),k≤ss.length∧i=.int .i64 k∧l=.int .i64 r∧0≤r∧r≤left) (fun _ i=>ss.length - (intOf i).toNat)
  case atStart=>exact⟨0,_,nz,rfl,rfl,by omega,by omega⟩
  case round=>
   obtain⟨k,r,hk,rfl,rfl,r0,r1⟩:=hrel;by_cases aw:k<ss.length
   ·have vL:=hc k aw;have hsk:=hs k aw;have e:ss.getD k ByteArray.empty=ss[k]:=by simp[aw]
    rw[e]at vL hsk;unfold maxLen at hsk;clear e hs hc;by_cases hq:r<(ss[k].size:Int)
    ·go_wp2;go_ret;exact⟨⟨_,rfl,by unfold fE;omega⟩,rfl⟩
    ·go_wp2;go_round
     case rel=>exact⟨k+1,_,by omega,by go_num,rfl,by omega,by omega⟩
     case measure=>simp[intOf];omega
   ·go_wp2;go_ret;exact⟨⟨_,rfl,by unfold fE;omega⟩,rfl⟩
theorem se (a:Option Addr) (cap:Nat) (left:Int) (w:World) (h0:0≤left) (h1:left≤1048576):
  Calls Tryz.prog 113 #[.slice a 0 cap,.int .i64 left] w fun e w'=>(∃ r:Int,e=.returned (.int .i64 r)∧fE 0 left r)∧w=w':=by
 go_enter Tryz.func113,Tryz.ntmps113
 go_wp2;refine wp_loop_rounds 1 ?_;rw[rounds_succ];go_wp2;go_ret;exact⟨⟨_,rfl,by unfold fE;omega⟩,rfl⟩
theorem mG (b off cap b' off' xL:Nat) (ss:List ByteArray) (w:World) (hl:ss.length≤maxLen)
  (hc:∀ i,i<ss.length→w.cell? ⟨b,off+i,none⟩=some (.string (ss.getD i ByteArray.empty)))
  (Dy:∀ i,i<ss.length→w.cell? ⟨b',off'+i,none⟩=some (.string (ss.getD i ByteArray.empty))):
  Calls Tryz.prog 152 #[.slice (some ⟨b,off,none⟩) ss.length cap,.slice (some ⟨b',off',none⟩) ss.length xL] w fun e w'=>e=.returned (.bool true)∧Bel w w':=by
 unfold maxLen at hl;go_enter Tryz.func152,Tryz.ntmps152
 go_wp2;go_loopw [5] (fun i wr=>∃ k:Nat,k≤ss.length∧i=.int .i64 k∧∃ n,wr=w.drewN n) (fun i _=>ss.length - (intOf i).toNat)
 case atStart=>exact⟨0,nz,rfl,0,rfl⟩
 case round=>
  obtain⟨k,hk,rfl,n,rfl⟩:=hrel;by_cases aw:k<ss.length
  ·have vL:w.cell? ⟨b,off+k,none⟩=some (.string ss[k]):=by have:=hc k aw;simpa [aw]using this
   have KI:w.cell? ⟨b',off'+k,none⟩=some (.string ss[k]):=by have:=Dy k aw;simpa [aw]using this
   clear hc Dy;go_wp2;go_quiet (fail)
   go_wp2;go_roundw
   case rel=>exact⟨k+1,by omega,by go_num,_,rfl⟩
   case measure=>simp[intOf];omega
  ·go_wp2;go_ret;exact⟨rfl,al br n⟩
def bT (w:World) (vs:Value) (ss:List ByteArray):Prop:=
 (∃ a cap,vs=.slice a 0 cap∧ss=[])∨∃ b off cap,vs=.slice (some ⟨b,off,none⟩) ss.length cap∧b<w.heap.size∧(∀ i,i<ss.length→(ss.getD i ByteArray.empty).size≤maxLen)∧ss.length≤maxLen∧
  ∀ i,i<ss.length→w.cell? ⟨b,off+i,none⟩=some (.string (ss.getD i ByteArray.empty))
theorem bT.later {w w':World} {vs:Value} {ss:List ByteArray} (h:bT w vs ss) (hb:Bel w w'):bT w' vs ss:=by
 rcases h with h|⟨b,off,cap,rfl,h1,h2,h3,h4⟩
 ·exact Or.inl h
 ·exact Or.inr ⟨b,off,cap,rfl,lo h1 hb.size,h2,h3,fun i hi=>by rw[← h4 i hi];exact hb.cell (p:=⟨b,off+i,none⟩) h1⟩
theorem j8 (vs:Value) (ss:List ByteArray) (left:Int) (w:World) (h0:0≤left) (h1:left≤1048576) (h:bT w vs ss):
  Calls Tryz.prog 113 #[vs,.int .i64 left] w fun e w'=>(∃ r:Int,e=.returned (.int .i64 r)∧fE ss.length left r)∧w=w':=by
 rcases h with⟨a,cap,rfl,rfl⟩|⟨b,off,cap,rfl,_,h2,h3,h4⟩
 ·exact se a cap left w h0 h1
 ·exact sx b off cap ss left w h0 h1 h3 h2 h4
theorem j5 (vs:Value) (ss:List ByteArray) (w:World) (hl:ss.length≤1048576) (h:bT w vs ss):
  Calls Tryz.prog 129 #[vs] w fun e w'=>∃ cs:Array Value,e=.returned (.slice (some ⟨w.heap.size,0,none⟩) ss.length ss.length)∧w'=w.alloc (.cells cs 9)∧cs.size=ss.length∧
   ∀ j,j<ss.length→cs[j]? =some (.string (ss.getD j ByteArray.empty)):=by
 rcases h with⟨a,cap,rfl,rfl⟩|⟨b,off,cap,rfl,h1,h2,h3,h4⟩
 ·exact(ru a cap w).mono fun e w' h=>⟨#[],h.1,h.2,rfl,fun j hj=>absurd hj (Nat.not_lt_zero j)⟩
 ·exact r8 b off cap ss w h1 hl h4
theorem BY (nm:ByteArray) (kind least most:Int) (vs:Value) (to:ByteArray) (role:Int) (must fixed:Bool) (de we:ByteArray) (w:World) (ss:List ByteArray) (left:Int) (h0:0≤left) (h1:left≤1048576) (h:bT w vs ss)
  (hn:nm.size≤maxLen) (ht:to.size≤maxLen) (hd:de.size≤maxLen) (hw:we.size≤maxLen):
  Calls Tryz.prog 159 #[.agg #[.string nm,.int .i64 kind,.int .i64 least,.int .i64 most,vs,.string to,.int .i64 role,.bool must,.bool fixed,.string de,.string we],.int .i64 left] w fun e w'=>(∃ r:Int,e=.returned (.int .i64 r)∧fE ss.length left r)∧Bel w w':=by
 unfold maxLen at hn ht hd hw;have HX:Hid (∀ (o:Obj) (l:Int),0≤l→l≤1048576→Calls Tryz.prog 113 #[vs,.int .i64 l] (w.alloc o) fun e w'=>(∃ r:Int,e=.returned (.int .i64 r)∧fE ss.length l r)∧(w.alloc o)=w'):=by
  intro o l l0 l1;exact j8 vs ss l _ l0 l1 (h.later (ab br o))
 clear h;by_cases c1:left<(nm.size:Int)
 ·go_enter Tryz.func159,Tryz.ntmps159
  go_wp2;go_ret;exact⟨⟨_,rfl,by unfold fE;omega⟩,ab br _⟩
 ·go_enter Tryz.func159,Tryz.ntmps159
  go_wp2_with fail
  refine(HX.out _ _ (by omega) (by omega)).mono ?_;rintro e w' ⟨⟨r,rfl,hr⟩,rfl⟩;have HR:=hid hr;have KC: -1≤r:=hr.1;have DH:r≤left - nm.size:=hr.2.1;clear hr;by_cases c2:r<0
  ·go_wp2;go_ret;exact⟨⟨_,rfl,by unfold fE;omega⟩,ab br _⟩
  ·have HS:Hid ((ss.length:Int)≤left):=by have:=HR.out.2.2 (by omega);show (ss.length:Int)≤left;omega
   by_cases c3:r<(to.size:Int)
   ·go_wp2;go_ret;exact⟨⟨_,rfl,by unfold fE;omega⟩,ab br _⟩
   by_cases c4:r - to.size<(de.size:Int)
   ·go_wp2;go_ret;exact⟨⟨_,rfl,by unfold fE;omega⟩,ab br _⟩
   by_cases c5:r - to.size - de.size<(we.size:Int)
   ·go_wp2;go_ret;exact⟨⟨_,rfl,by unfold fE;omega⟩,ab br _⟩
   ·go_wp2;go_ret;exact⟨⟨_,rfl,by have:=HS.out;unfold fE;omega⟩,ab br _⟩
theorem Cr (nm:ByteArray) (kind least most:Int) (b b':Nat) (to:ByteArray) (role:Int) (must fixed:Bool) (de we:ByteArray) (ss:List ByteArray) (w:World) (hb:b<w.heap.size) (vM:b'<w.heap.size) (hl:ss.length≤1048576)
  (hc:∀ i,i<ss.length→w.cell? ⟨b,0+i,none⟩=some (.string (ss.getD i ByteArray.empty)))
  (Dy:∀ i,i<ss.length→w.cell? ⟨b',0+i,none⟩=some (.string (ss.getD i ByteArray.empty))):
  Calls Tryz.prog 191 #[.agg #[.string nm,.int .i64 kind,.int .i64 least,.int .i64 most,.slice (some ⟨b,0,none⟩) ss.length ss.length,.string to,.int .i64 role,.bool must,.bool fixed,.string de,.string we],.agg #[.string nm,.int .i64 kind,.int .i64 least,.int .i64 most,(.slice (some ⟨b',0,none⟩) ss.length ss.length),.string to,.int .i64 role,.bool must,.bool fixed,.string de,.string we]] w
   fun e w'=>e=.returned (.bool true)∧Bel w w':=by
 have HX:Hid (∀ W,Bel w W→Calls Tryz.prog 152 #[.slice (some ⟨b,0,none⟩) ss.length ss.length,.slice (some ⟨b',0,none⟩) ss.length ss.length] W fun e w'=>e=.returned (.bool true)∧Bel W w'):=by
  intro W hW;refine mG b 0 ss.length b' 0 ss.length ss W (by unfold maxLen;omega) (fun i hi=> ?_) (fun i hi=> ?_)
  ·rw[← hc i hi];exact hW.cell (p:=⟨b,0+i,none⟩) hb
  ·rw[← Dy i hi];exact hW.cell (p:=⟨b',0+i,none⟩) vM
 clear hc Dy hb vM hl;go_enter Tryz.func191,Tryz.ntmps191
 go_wp2_with fail
 have hB:Bel w ((w.alloc (.cells #[.string nm,.int .i64 kind,.int .i64 least,.int .i64 most,.slice (some ⟨b,0,none⟩) ss.length ss.length,.string to,.int .i64 role,.bool must,.bool fixed,.string de,.string we] 122)).alloc (.cells #[.string nm,.int .i64 kind,.int .i64 least,.int .i64 most,.slice (some ⟨b',0,none⟩) ss.length ss.length,.string to,.int .i64 role,.bool must,.bool fixed,.string de,.string we] 122)):=ab (ab br _) _;refine(HX.out _ hB).mono ?_;rintro e w1 ⟨rfl,bj⟩;have aA:=aa hB bj;obtain⟨hcell,H9⟩:(∀ q o,q<w.heap.size+1+1→w1.cell? ⟨q,o,none⟩=((w.alloc (.cells #[.string nm,.int .i64 kind,.int .i64 least,.int .i64 most,.slice (some ⟨b,0,none⟩) ss.length ss.length,.string to,.int .i64 role,.bool must,.bool fixed,.string de,.string we] 122)).alloc (.cells #[.string nm,.int .i64 kind,.int .i64 least,.int .i64 most,.slice (some ⟨b',0,none⟩) ss.length ss.length,.string to,.int .i64 role,.bool must,.bool fixed,.string de,.string we] 122)).cell? ⟨q,o,none⟩)∧True:=
  ⟨fun q o h=>bj.cell (p:=⟨q,o,none⟩) (by simpa using h),trivial⟩
 clear hB bj HX H9;go_wp2;go_ret;exact⟨rfl,aA⟩
end Go.Proofs.YtbiokpmdghmgcaaGreat
